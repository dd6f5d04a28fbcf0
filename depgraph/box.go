package depgraph

import (
	"cmp"
	"strings"

	"counterpane/api"
)

// box is cells of a sheet, from one row and one column to another, both of them too.
type box struct {
	sheet          string
	r0, c0, r1, c1 int64
}

// boxes is what e, which stands on the sheet home and may be, refers to.
func boxes(e api.Expr, home string) []box {
	var out []box
	if len(e.Refs) > 0 {
		// A single reference is both ends. A range's second one never names a sheet: it is on the first one's.
		first, last := e.Refs[0], e.Refs[len(e.Refs)-1]
		sheet := strings.Clone(cmp.Or(first.Sheet, home))
		out = append(out, single(sheet, first.Row, first.Col).and(single(sheet, last.Row, last.Col)))
	}
	for _, kid := range e.Kids {
		out = append(out, boxes(kid, home)...)
	}
	return out
}

// single is one cell.
func single(sheet string, row, col int64) box {
	return box{sheet, row, col, row, col}
}

func boxOf(at api.At) box {
	return single(at.Sheet, at.Row, at.Col)
}

// The first and the last cell of a box.

func (b box) first() api.At { return api.At{Sheet: b.sheet, Row: b.r0, Col: b.c0} }
func (b box) last() api.At  { return api.At{Sheet: b.sheet, Row: b.r1, Col: b.c1} }

// and is the least box with all cells of b and o, which are on one sheet.
func (b box) and(o box) box {
	return box{b.sheet, min(b.r0, o.r0), min(b.c0, o.c0), max(b.r1, o.r1), max(b.c1, o.c1)}
}

// holds says whether all cells of o are b's.
func (b box) holds(o box) bool {
	return b.sheet == o.sheet && b.r0 <= o.r0 && o.r1 <= b.r1 && b.c0 <= o.c0 && o.c1 <= b.c1
}

// meets says whether some cell of o is b's.
func (b box) meets(o box) bool {
	return b.sheet == o.sheet && b.r0 <= o.r1 && o.r0 <= b.r1 && b.c0 <= o.c1 && o.c0 <= b.c1
}
