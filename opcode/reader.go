package opcode

import (
	"counterpane/api"
)

// reader reads what a writer wrote. Of other bytes it makes something that is written otherwise: where one is missing, or
// something is more than may be, it reads nothing more, and all else is zero.
type reader struct {
	rest []byte
	// nodes are those of the tree that is being read.
	nodes int
}

func (r *reader) stop() {
	r.rest = nil
}

func (r *reader) number() uint64 {
	n := uint64(0)
	for i, b := range r.rest[:min(len(r.rest), maxDigits)] {
		n |= uint64(b%more) << (digitBits * i)
		if b < more {
			r.rest = r.rest[i+1:]
			return n
		}
	}
	r.stop()
	return 0
}

// count is a number that is not above most, so that the reading of huge numbers of things is not begun.
func (r *reader) count(most int) int {
	n := r.number()
	if n > uint64(most) {
		r.stop()
		return 0
	}
	return int(n)
}

func (r *reader) line() int64 {
	return int64(r.number())
}

func (r *reader) signed() api.Fix {
	n := r.number()
	return api.Fix(n>>1) ^ -api.Fix(n&1)
}

func (r *reader) truth() bool {
	return r.count(1) == 1
}

func (r *reader) text() string {
	n := r.count(api.MaxText)
	if n > len(r.rest) {
		r.stop()
		return ""
	}
	s := string(r.rest[:n])
	r.rest = r.rest[n:]
	return s
}

func (r *reader) batch() []api.Op {
	var os []api.Op
	for range r.count(api.MaxOps) {
		os = append(os, r.op())
	}
	return os
}

func (r *reader) op() api.Op {
	var o api.Op
	o.Kind = r.count(api.ORemove)
	o.Sheet = r.text()
	switch o.Kind {
	case api.OSet:
		o.Row = r.line()
		o.Col = r.line()
		o.Cell = r.cell()
	case api.ORow, api.OCol:
		o.Line.Kind = r.count(api.LMove)
		o.Line.At = r.line()
		o.Line.To = r.line()
	case api.OFormat:
		o.Rects = r.rects()
		o.Format = r.count(api.MaxFormat)
	case api.OAdd, api.ORename:
		o.Name = r.text()
	}
	return o
}

func (r *reader) rects() []api.Rect {
	var rs []api.Rect
	for range r.count(api.MaxRects) {
		var one api.Rect
		one.R0 = r.line()
		one.C0 = r.line()
		one.R1 = r.line()
		one.C1 = r.line()
		rs = append(rs, one)
	}
	return rs
}

func (r *reader) cell() api.Cell {
	kind := r.count(formula)
	if kind == formula {
		r.nodes = 0
		return api.Cell{Formula: true, Expr: r.tree()}
	}
	v := api.Value{Kind: kind}
	switch kind {
	case api.VNumber:
		v.Num = r.signed()
	case api.VText:
		v.Text = r.text()
	case api.VBool:
		v.Bool = r.truth()
	case api.VError:
		v.Err = r.count(api.ENone)
	}
	return api.Cell{Value: v}
}

func (r *reader) tree() api.Expr {
	// Without an end here calls would stand within calls as deep as there are bytes.
	r.nodes++
	if r.nodes > api.MaxNodes {
		r.stop()
		return api.Expr{}
	}
	e := api.Expr{Kind: r.count(api.XCall)}
	switch e.Kind {
	case api.XNum:
		e.Num = api.Fix(r.number())
	case api.XText:
		e.Text = r.text()
	case api.XBool:
		e.Bool = r.truth()
	case api.XErr:
		e.Err = r.count(api.ENone)
	case api.XRef:
		e.Refs = r.refs(1)
	case api.XRange:
		e.Refs = r.refs(2)
	case api.XNeg:
		e.Kids = r.trees(1)
	case api.XBin:
		e.Text = r.text()
		e.Kids = r.trees(2)
	case api.XCall:
		e.Text = r.text()
		e.Kids = r.trees(r.count(api.MaxArgs))
	}
	return e
}

func (r *reader) trees(n int) []api.Expr {
	var es []api.Expr
	for range n {
		es = append(es, r.tree())
	}
	return es
}

func (r *reader) refs(n int) []api.Ref {
	var rs []api.Ref
	for range n {
		rs = append(rs, r.ref())
	}
	return rs
}

func (r *reader) ref() api.Ref {
	var one api.Ref
	one.Sheet = r.text()
	one.Row = r.line()
	one.Col = r.line()
	held := r.count(rowAbs + colAbs)
	one.RowAbs = held&rowAbs != 0
	one.ColAbs = held&colAbs != 0
	return one
}
