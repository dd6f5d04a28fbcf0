package rewrite

import (
	"counterpane/api"
)

// plenty is how many nodes of a tree are taken as they come.
const plenty = 1 << 16

// walk goes through the nodes of a list that is not empty, from the left, a node ahead of its kids; into says whether to go on to its kids.
func walk(list []api.Expr, into func(node *api.Expr) bool) {
	// A tree may be as deep as memory is, so that what is still to come is a list, not calls within calls.
	open := [][]api.Expr{list}
	for len(open) > 0 {
		last := len(open) - 1
		node := &open[last][0]
		if rest := open[last][1:]; len(rest) > 0 {
			open[last] = rest
		} else {
			open = open[:last]
		}
		if into(node) && len(node.Kids) > 0 {
			open = append(open, node.Kids)
		}
	}
}

// repeats finds lists of kids that come again. In a tree that may not be a list may stand at many places, even within itself,
// so that the tree has no end: behind plenty of nodes each list is gone through once.
type repeats struct {
	nodes int
	kept  map[place][]api.Expr
}

// place tells lists apart by where they lie, which takes no look at what is in them.
type place struct {
	first  *api.Expr
	length int
}

// find is asked once a node, of its kids: what was kept for them, and whether they came already.
func (r *repeats) find(kids []api.Expr) ([]api.Expr, bool) {
	r.nodes++
	if len(kids) == 0 || r.nodes <= plenty {
		return nil, false
	}
	have, ok := r.kept[place{&kids[0], len(kids)}]
	return have, ok
}

// keep keeps what became of kids.
func (r *repeats) keep(kids, made []api.Expr) {
	if len(kids) == 0 || r.nodes <= plenty {
		return
	}
	if r.kept == nil {
		r.kept = map[place][]api.Expr{}
	}
	r.kept[place{&kids[0], len(kids)}] = made
}
