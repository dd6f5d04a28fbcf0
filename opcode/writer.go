package opcode

import (
	"counterpane/api"
)

// formula stands where the kind of a value stands, in a cell that is a formula.
const formula = api.VError + 1

// How a number is written: seven bits a byte, the lowest first, and a mark on each byte that another one follows.
const (
	digitBits = 7
	more      = 1 << digitBits
	maxDigits = 10
)

// What holds fast in a reference.
const (
	rowAbs = 1
	colAbs = 2
)

// writer writes what may be. What is read by its kind has the kind ahead of it, and what may have any length its length,
// so that whoever reads from the front knows at each byte what it is.
type writer struct {
	written []byte
}

func (w *writer) number(n uint64) {
	for n >= more {
		w.written = append(w.written, byte(n%more+more))
		n /= more
	}
	w.written = append(w.written, byte(n))
}

// count is of a number that is not below 0.
func (w *writer) count(n int) {
	w.number(uint64(n))
}

// line is of a number that is not below 0.
func (w *writer) line(n int64) {
	w.number(uint64(n))
}

// signed writes numbers near 0 in few bytes, on both sides of it.
func (w *writer) signed(n api.Fix) {
	// Of those below 0 all bits are turned round, and the lowest bit tells it.
	w.number(uint64(n)<<1 ^ uint64(n>>63))
}

func (w *writer) truth(b bool) {
	if b {
		w.number(1)
	} else {
		w.number(0)
	}
}

func (w *writer) text(s string) {
	w.count(len(s))
	w.written = append(w.written, s...)
}

func (w *writer) batch(os []api.Op) {
	w.count(len(os))
	for _, o := range os {
		w.op(o)
	}
}

func (w *writer) op(o api.Op) {
	w.count(o.Kind)
	w.text(o.Sheet)
	switch o.Kind {
	case api.OSet:
		w.line(o.Row)
		w.line(o.Col)
		w.cell(o.Cell)
	case api.ORow, api.OCol:
		w.count(o.Line.Kind)
		w.line(o.Line.At)
		w.line(o.Line.To)
	case api.OFormat:
		w.rects(o.Rects)
		w.count(o.Format)
	case api.OAdd, api.ORename:
		w.text(o.Name)
	}
}

func (w *writer) rects(rs []api.Rect) {
	w.count(len(rs))
	for _, r := range rs {
		w.line(r.R0)
		w.line(r.C0)
		w.line(r.R1)
		w.line(r.C1)
	}
}

func (w *writer) cell(c api.Cell) {
	if c.Formula {
		w.count(formula)
		w.tree(c.Expr)
		return
	}
	w.count(c.Value.Kind)
	switch c.Value.Kind {
	case api.VNumber:
		w.signed(c.Value.Num)
	case api.VText:
		w.text(c.Value.Text)
	case api.VBool:
		w.truth(c.Value.Bool)
	case api.VError:
		w.count(c.Value.Err)
	}
}

func (w *writer) tree(e api.Expr) {
	w.count(e.Kind)
	switch e.Kind {
	case api.XNum:
		w.number(uint64(e.Num))
	case api.XText:
		w.text(e.Text)
	case api.XBool:
		w.truth(e.Bool)
	case api.XErr:
		w.count(e.Err)
	case api.XRef, api.XRange:
		// How many there are the kind says.
		for _, r := range e.Refs {
			w.ref(r)
		}
	case api.XNeg:
		w.trees(e.Kids)
	case api.XBin:
		w.text(e.Text)
		w.trees(e.Kids)
	case api.XCall:
		w.text(e.Text)
		w.count(len(e.Kids))
		w.trees(e.Kids)
	}
}

func (w *writer) trees(es []api.Expr) {
	for _, e := range es {
		w.tree(e)
	}
}

func (w *writer) ref(r api.Ref) {
	w.text(r.Sheet)
	w.line(r.Row)
	w.line(r.Col)
	w.count(held(r))
}

func held(r api.Ref) int {
	n := 0
	if r.RowAbs {
		n += rowAbs
	}
	if r.ColAbs {
		n += colAbs
	}
	return n
}
