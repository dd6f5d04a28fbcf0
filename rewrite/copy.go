package rewrite

import (
	"strings"

	"counterpane/api"
	"counterpane/parse"
)

// copied is e in new memory, whatever e is.
func copied(e api.Expr) api.Expr {
	list := []api.Expr{e}
	made := copies{apart: fitsApart(list)}
	var w walker
	w.enter(list)
	for node := w.next(); node != nil; node = w.next() {
		node.Text = strings.Clone(node.Text)
		node.Refs = copiedRefs(node.Refs)
		kids, again := made.of(node.Kids)
		node.Kids = kids
		if !again {
			w.enter(kids)
		}
	}
	return list[0]
}

// fitsApart says whether the tree of list is no more than may be given if all its lists lie apart.
func fitsApart(list []api.Expr) bool {
	// Asked first, for most trees are small.
	if parse.Count(list[0]) <= api.MaxNodes {
		return true
	}
	_, ok := weigh(list, wholeWeight)
	return ok
}

func wholeWeight(node *api.Expr) int64 {
	return nodeBytes + int64(len(node.Text)) + refsWeight(node)
}

// copies copies lists of kids: each at each of its places, if they are to lie apart, or else each once, so that a tree without end has a copy.
type copies struct {
	apart bool
	kept  map[place][]api.Expr
}

// of is the copy of kids, and whether it was there already.
func (c *copies) of(kids []api.Expr) ([]api.Expr, bool) {
	if c.apart || len(kids) == 0 {
		return anew(kids), false
	}
	at := placeOf(kids)
	if made, ok := c.kept[at]; ok {
		return made, true
	}
	if c.kept == nil {
		c.kept = map[place][]api.Expr{}
	}
	c.kept[at] = anew(kids)
	return c.kept[at], false
}

func copiedRefs(refs []api.Ref) []api.Ref {
	out := anew(refs)
	for i := range out {
		out[i].Sheet = strings.Clone(out[i].Sheet)
	}
	return out
}

// anew is l in memory of its own, without spare room.
func anew[T any](l []T) []T {
	if l == nil {
		return nil
	}
	out := make([]T, len(l))
	copy(out, l)
	return out
}
