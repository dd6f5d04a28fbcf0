package show

import (
	"strings"

	"counterpane/a1"
	"counterpane/api"
)

const quote = `"`

// writeTree writes e, which may be, without brackets of its own.
func writeTree(b *strings.Builder, e api.Expr) {
	switch e.Kind {
	case api.XText:
		b.WriteString(quote + strings.ReplaceAll(e.Text, quote, quote+quote) + quote)
	case api.XRef:
		b.WriteString(a1.Print(e.Refs[0]))
	case api.XRange:
		b.WriteString(a1.Print(e.Refs[0]) + ":" + a1.Print(e.Refs[1]))
	case api.XNeg:
		b.WriteString("-")
		writeSide(b, e.Kids[0], e.Kids[0].Kind == api.XBin)
	case api.XBin:
		writeSide(b, e.Kids[0], strength(e.Kids[0]) < strength(e))
		b.WriteString(e.Text)
		// Operators bind to the left, so that on this side one that binds the same would be taken apart.
		writeSide(b, e.Kids[1], strength(e.Kids[1]) <= strength(e))
	case api.XCall:
		writeCall(b, e)
	default:
		b.WriteString(plain(constant(e)))
	}
}

func writeSide(b *strings.Builder, e api.Expr, brackets bool) {
	if !brackets {
		writeTree(b, e)
		return
	}
	b.WriteString("(")
	writeTree(b, e)
	b.WriteString(")")
}

func writeCall(b *strings.Builder, e api.Expr) {
	b.WriteString(e.Text + "(")
	for i, kid := range e.Kids {
		if i > 0 {
			b.WriteString(",")
		}
		writeTree(b, kid)
	}
	b.WriteString(")")
}

// constant is the value of a node that is a number, a truth or an error.
func constant(e api.Expr) api.Value {
	switch e.Kind {
	case api.XNum:
		return api.Value{Kind: api.VNumber, Num: e.Num}
	case api.XBool:
		return api.Value{Kind: api.VBool, Bool: e.Bool}
	}
	return api.Value{Kind: api.VError, Err: e.Err}
}

// strength is how strongly e holds its parts together, as parse binds them.
func strength(e api.Expr) int {
	if e.Kind != api.XBin {
		return 5
	}
	switch e.Text {
	case "*", "/":
		return 4
	case "+", "-":
		return 3
	case "&":
		return 2
	}
	return 1
}
