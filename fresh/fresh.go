// Package fresh: copies, in memory of their own, of what the layers hand one another.
package fresh

import (
	"strings"

	"counterpane/api"
)

// Cell is c, which may be, in new memory.
func Cell(c api.Cell) api.Cell {
	c.Value.Text = strings.Clone(c.Value.Text)
	c.Expr = Expr(c.Expr)
	return c
}

// Expr is e, which may be, in new memory.
func Expr(e api.Expr) api.Expr {
	e.Text = strings.Clone(e.Text)
	e.Refs = each(e.Refs, ref)
	e.Kids = each(e.Kids, Expr)
	return e
}

func ref(r api.Ref) api.Ref {
	r.Sheet = strings.Clone(r.Sheet)
	return r
}

// each is a list of the copies of old's elements; none of an empty one.
func each[T any](old []T, copied func(T) T) []T {
	if len(old) == 0 {
		return nil
	}
	out := make([]T, len(old))
	for i, t := range old {
		out[i] = copied(t)
	}
	return out
}
