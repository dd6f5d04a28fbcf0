package xform

import (
	"slices"
	"strings"

	"counterpane/api"
	"counterpane/op"
	"counterpane/rewrite"
)

// asked is an operation, and whether it may be, which is asked once: each of one list is taken behind each of another.
type asked struct {
	op  api.Op
	may bool
}

func ask(o api.Op) asked {
	return asked{o, op.May(o)}
}

// behind is Op; what it answers shares memory with a.
func (a asked) behind(b asked, prior bool) (asked, bool) {
	if !a.may || !b.may {
		return asked{}, false
	}
	out, ok := behind(a.op, b.op, prior)
	return asked{out, ok}, ok
}

// told is a's operation in new memory.
func told(a asked) api.Op {
	return copied(a.op)
}

// copied is o in new memory, whatever o is.
func copied(o api.Op) api.Op {
	o.Sheet, o.Name = strings.Clone(o.Sheet), strings.Clone(o.Name)
	o.Cell.Value.Text = strings.Clone(o.Cell.Value.Text)
	// Nothing is gone: this is just a copy, also of a tree that may not be.
	o.Cell.Expr = rewrite.Sheet(o.Cell.Expr, o.Sheet, "")
	o.Rects = slices.Clone(o.Rects)
	return o
}

// each is a list of what to makes of the elements of list.
func each[A, B any](list []A, to func(A) B) []B {
	var out []B
	for _, a := range list {
		out = append(out, to(a))
	}
	return out
}
