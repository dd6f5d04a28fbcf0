package xform

import (
	"counterpane/api"
	"counterpane/axis"
	"counterpane/op"
	"counterpane/region"
	"counterpane/rewrite"
)

// behind is Op of a and b, which may be; what it answers may be, too, but shares memory with a.
func behind(a, b api.Op, prior bool) (api.Op, bool) {
	switch b.Kind {
	case api.ORow, api.OCol:
		return shifted(a, b, prior)
	case api.ORemove:
		return bereft(a, b.Sheet)
	}
	if prior && a.Kind == b.Kind && a.Sheet == b.Sheet {
		return covered(a, b)
	}
	return a, true
}

// shifted is a behind b, which is done on lines.
func shifted(a, b api.Op, prior bool) (api.Op, bool) {
	rows := b.Kind == api.ORow
	// A formula refers to the lines of any sheet.
	if a.Cell.Formula {
		a.Cell.Expr = rewrite.Lines(a.Cell.Expr, a.Sheet, b.Sheet, rows, b.Line)
	}
	if a.Sheet == b.Sheet {
		switch a.Kind {
		case api.OSet:
			line := &a.Col
			if rows {
				line = &a.Row
			}
			*line = axis.Index(b.Line, *line)
		case api.OFormat:
			a.Rects = region.Image(a.Rects, rows, b.Line)
		case b.Kind:
			a.Line, _ = axis.Transform(a.Line, b.Line, prior)
		}
	}
	// A place that is nowhere, an empty list of rectangles and a zero line are none that may be.
	if !op.May(a) {
		return api.Op{}, false
	}
	return a, true
}

// bereft is a behind the removal of the sheet gone.
func bereft(a api.Op, gone string) (api.Op, bool) {
	if a.Sheet == gone {
		return api.Op{}, false
	}
	if a.Cell.Formula {
		a.Cell.Expr = rewrite.Sheet(a.Cell.Expr, a.Sheet, gone)
	}
	return a, true
}

// covered is what is left of a, as far as b, of the same kind and sheet, does not do the same later.
func covered(a, b api.Op) (api.Op, bool) {
	ok := true
	switch a.Kind {
	case api.OSet:
		ok = a.Row != b.Row || a.Col != b.Col
	case api.OFormat:
		a.Rects = region.Sub(a.Rects, b.Rects...)
		ok = len(a.Rects) > 0
	case api.ORename:
		ok = false
	}
	if !ok {
		return api.Op{}, false
	}
	return a, true
}
