package rewrite

import (
	"counterpane/api"
)

// limit is how many bytes the program may be given in all.
const limit = 1<<31 - 1

// What a node and a reference take of them.
const (
	nodeBytes = 96
	refBytes  = 40
)

// scale weighs the lists of kids of a tree. A list may stand at many places, even within itself: it weighs at each of them,
// as lists would that lie apart, but it is gone through once, for there may be more places than can be gone through.
type scale struct {
	weight  func(node *api.Expr) int64
	sums    map[place]sum
	open    []opened
	endless bool
}

// sum is what a list weighs with all that is below it, or limit + 1, if it is more.
type sum struct {
	total  int64
	closed bool // the list has been gone through
	within bool // the list stands within itself
}

// opened is a list that is gone through just now.
type opened struct {
	at    place
	rest  []api.Expr
	total int64
}

// weigh is the sums of list, which is not empty, and of all lists below it; false: together it is more than limit, or without end.
func weigh(list []api.Expr, weight func(node *api.Expr) int64) (map[place]sum, bool) {
	s := scale{weight: weight, sums: map[place]sum{}}
	s.begin(list)
	for len(s.open) > 0 {
		s.step()
	}
	return s.sums, !s.endless && s.sums[placeOf(list)].total <= limit
}

func (s *scale) begin(list []api.Expr) {
	at := placeOf(list)
	s.sums[at] = sum{}
	s.open = append(s.open, opened{at: at, rest: list})
}

// step weighs the next node of the list that was begun last, or ends that list.
func (s *scale) step() {
	last := &s.open[len(s.open)-1]
	if len(last.rest) == 0 {
		s.end()
		return
	}
	node := &last.rest[0]
	last.rest = last.rest[1:]
	last.add(s.weight(node))
	if len(node.Kids) == 0 {
		return
	}
	at := placeOf(node.Kids)
	kids, came := s.sums[at]
	switch {
	case !came:
		s.begin(node.Kids)
	case kids.closed:
		last.add(kids.total)
	default:
		s.sums[at] = sum{within: true}
	}
}

func (s *scale) end() {
	last := s.open[len(s.open)-1]
	s.open = s.open[:len(s.open)-1]
	// What weighs nothing weighs nothing however often it stands within itself.
	if s.sums[last.at].within && last.total > 0 {
		s.endless = true
	}
	s.sums[last.at] = sum{total: last.total, closed: true}
	if len(s.open) > 0 {
		s.open[len(s.open)-1].add(last.total)
	}
}

func (o *opened) add(n int64) {
	o.total = min(o.total+n, limit+1)
}
