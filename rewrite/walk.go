package rewrite

import (
	"counterpane/api"
)

// walker goes through a tree from the left, a node ahead of its kids.
type walker struct {
	// A tree may be as deep as memory is, so that what is still to come is a list, not calls within calls.
	open [][]api.Expr
}

// enter has the nodes of list come next.
func (w *walker) enter(list []api.Expr) {
	if len(list) > 0 {
		w.open = append(w.open, list)
	}
}

// next is the node that comes next; nil: there is none.
func (w *walker) next() *api.Expr {
	if len(w.open) == 0 {
		return nil
	}
	last := len(w.open) - 1
	node := &w.open[last][0]
	if rest := w.open[last][1:]; len(rest) > 0 {
		w.open[last] = rest
	} else {
		w.open = w.open[:last]
	}
	return node
}

// place tells lists apart by where they lie, which takes no look at what is in them.
type place struct {
	first  *api.Expr
	length int
}

// placeOf is of a list that is not empty.
func placeOf(list []api.Expr) place {
	return place{&list[0], len(list)}
}
