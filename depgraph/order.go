package depgraph

import (
	"container/heap"

	"counterpane/api"
	"counterpane/plane"
)

// schedule has the cells of a graph come one by one, each behind those of its From. If each cell waited for each other one by
// itself, a column of sums over all that is above them would take the square of its length. So cells wait for boxes, boxes for
// the few crowds that they hold, and these for their halves.
type schedule struct {
	crowds map[*plane.Crowd]*knot
	boxes  map[plane.Box]*knot
	cells  []*knot // those of the crowds of one cell
	ready  queue   // the cells that might come next
}

// knot is what waits and is waited for: a cell, a crowd or a box.
type knot struct {
	at    api.At // of a cell
	cell  bool
	waits int     // for how many it still waits
	next  []*knot // those that wait for it
}

func (k *knot) waitFor(other *knot) {
	other.next = append(other.next, k)
	k.waits++
}

func (g *Graph) schedule() *schedule {
	s := &schedule{crowds: map[*plane.Crowd]*knot{}, boxes: map[plane.Box]*knot{}}
	for _, c := range g.crowds {
		s.enter(c)
	}
	for _, k := range s.cells {
		for _, b := range g.formulas[k.at] {
			// A box without formulas never waited, and would be waited for in vain.
			if held := s.box(b, g.crowds[b.Sheet]); held.waits > 0 {
				k.waitFor(held)
			}
		}
	}
	return s
}

// enter has c, and all crowds in it, wait for their halves.
func (s *schedule) enter(c *plane.Crowd) *knot {
	k := &knot{}
	s.crowds[c] = k
	if k.at, k.cell = c.Alone(); k.cell {
		s.cells = append(s.cells, k)
		return k
	}
	for _, half := range c.Halves() {
		k.waitFor(s.enter(half))
	}
	return k
}

// box is the knot of b, which is on the sheet of c (nil: no formula is there).
func (s *schedule) box(b plane.Box, c *plane.Crowd) *knot {
	if s.boxes[b] == nil {
		k := &knot{}
		c.Within([]plane.Box{b}, func(part *plane.Crowd) { k.waitFor(s.crowds[part]) })
		s.boxes[b] = k
	}
	return s.boxes[b]
}

// run is the cells that come, in order, and those that never do.
func (s *schedule) run() (came, rest []api.At) {
	for _, k := range s.cells {
		if k.waits == 0 {
			heap.Push(&s.ready, k)
		}
	}
	for len(s.ready) > 0 {
		k := heap.Pop(&s.ready).(*knot)
		came = append(came, k.at)
		s.done(k)
	}
	for _, k := range s.cells {
		if k.waits > 0 {
			rest = append(rest, k.at)
		}
	}
	return came, rest
}

// done tells those that wait for k that it is there.
func (s *schedule) done(k *knot) {
	for _, other := range k.next {
		other.waits--
		switch {
		case other.waits > 0:
		case other.cell:
			heap.Push(&s.ready, other)
		default:
			s.done(other)
		}
	}
}

// queue is a heap of cells, the first by sheets, rows, columns ahead.
type queue []*knot

func (q queue) Len() int           { return len(q) }
func (q queue) Less(i, j int) bool { return plane.InOrder(q[i].at, q[j].at) < 0 }
func (q queue) Swap(i, j int)      { q[i], q[j] = q[j], q[i] }
func (q *queue) Push(k any)        { *q = append(*q, k.(*knot)) }

func (q *queue) Pop() any {
	last := len(*q) - 1
	k := (*q)[last]
	*q = (*q)[:last]
	return k
}
