package depgraph

import (
	"cmp"
	"strings"

	"counterpane/api"
	"counterpane/plane"
)

// boxes is what e, which stands on the sheet home and may be, refers to.
func boxes(e api.Expr, home string) []plane.Box {
	var out []plane.Box
	if len(e.Refs) > 0 {
		// A single reference is both ends. A range's second one never names a sheet: it is on the first one's.
		first, last := e.Refs[0], e.Refs[len(e.Refs)-1]
		sheet := strings.Clone(cmp.Or(first.Sheet, home))
		out = append(out, plane.Between(sheet, first.Row, first.Col, last.Row, last.Col))
	}
	for _, kid := range e.Kids {
		out = append(out, boxes(kid, home)...)
	}
	return out
}
