// Package plane: cells of sheets, and the boxes that they are in.
package plane

import (
	"cmp"

	"counterpane/api"
)

// Box is cells of a sheet, from one row and one column to another, both of them too.
type Box struct {
	Sheet          string
	R0, C0, R1, C1 int64
}

// One is the cell at a place.
func One(at api.At) Box {
	return Box{at.Sheet, at.Row, at.Col, at.Row, at.Col}
}

// Between is the least box with both cells of a sheet.
func Between(sheet string, row, col, otherRow, otherCol int64) Box {
	return Box{sheet, row, col, row, col}.and(Box{sheet, otherRow, otherCol, otherRow, otherCol})
}

// The first and the last cell of a box.

func (b Box) first() api.At { return api.At{Sheet: b.Sheet, Row: b.R0, Col: b.C0} }
func (b Box) last() api.At  { return api.At{Sheet: b.Sheet, Row: b.R1, Col: b.C1} }

// and is the least box with all cells of b and o, which are on one sheet.
func (b Box) and(o Box) Box {
	return Box{b.Sheet, min(b.R0, o.R0), min(b.C0, o.C0), max(b.R1, o.R1), max(b.C1, o.C1)}
}

// Holds says whether all cells of o are b's.
func (b Box) Holds(o Box) bool {
	return b.Sheet == o.Sheet && b.R0 <= o.R0 && o.R1 <= b.R1 && b.C0 <= o.C0 && o.C1 <= b.C1
}

// meets says whether some cell of o is b's.
func (b Box) meets(o Box) bool {
	return b.Sheet == o.Sheet && b.R0 <= o.R1 && o.R0 <= b.R1 && b.C0 <= o.C1 && o.C0 <= b.C1
}

// InOrder compares places by sheets, rows, columns.
func InOrder(a, b api.At) int {
	return cmp.Or(cmp.Compare(a.Sheet, b.Sheet), cmp.Compare(a.Row, b.Row), cmp.Compare(a.Col, b.Col))
}
