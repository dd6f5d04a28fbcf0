package fresh

import (
	"strings"
	"testing"
	"unsafe"

	"counterpane/api"
	"counterpane/parse"
	"counterpane/show"
)

// tree is a formula's tree whose texts lie in memory of their own.
func tree(t *testing.T) api.Expr {
	t.Helper()
	e, err := parse.Parse(`IF(c1n1!A1="one text",SUM(c2n2!B2:C3,1.5),-NA())&"another"`)
	if err != api.OK {
		t.Fatal("the test's own formula is none")
	}
	return e
}

// texts are all texts of e.
func texts(e api.Expr) []string {
	out := []string{e.Text}
	for _, r := range e.Refs {
		out = append(out, r.Sheet)
	}
	for _, kid := range e.Kids {
		out = append(out, texts(kid)...)
	}
	return out
}

// spoil writes into all lists of e.
func spoil(e api.Expr) {
	for i := range e.Refs {
		e.Refs[i] = api.Ref{Sheet: "c9n9", Row: -7}
	}
	for i := range e.Kids {
		spoil(e.Kids[i])
		e.Kids[i] = api.Expr{Kind: -7}
	}
}

func apart(t *testing.T, a, b []string) {
	t.Helper()
	for i := range a {
		if a[i] != "" && unsafe.StringData(a[i]) == unsafe.StringData(b[i]) {
			t.Errorf("P0.3: the text %q is shared", a[i])
		}
	}
}

func TestExpr(t *testing.T) {
	e, whole := tree(t), tree(t)
	got := Expr(e)
	if !parse.Eq(got, whole) {
		t.Fatalf("the copy is %s", show.Formula(got))
	}
	apart(t, texts(e), texts(got))
	spoil(got)
	if !parse.Eq(e, whole) {
		t.Error("P0.3: who writes into the copy changes what was copied")
	}
	got = Expr(e)
	spoil(e)
	if !parse.Eq(got, whole) {
		t.Error("P0.3: who writes into what was copied changes the copy")
	}
	if got := Expr(api.Expr{Kind: api.XNum, Refs: []api.Ref{}, Kids: []api.Expr{}}); len(got.Refs)+len(got.Kids) != 0 {
		t.Error("empty lists get elements")
	}
}

// One list that stands at two places is two lists in the copy.
func TestSharedKids(t *testing.T) {
	one := []api.Expr{{Kind: api.XRef, Refs: []api.Ref{{Row: 1}}}}
	e := api.Expr{Kind: api.XBin, Text: "+", Kids: []api.Expr{{Kind: api.XNeg, Kids: one}, {Kind: api.XNeg, Kids: one}}}
	got := Expr(e)
	got.Kids[0].Kids[0].Refs[0].Row = 9
	got.Kids[0].Kids[0].Kind = 9
	if !parse.Eq(got.Kids[1], e.Kids[1]) || one[0].Refs[0].Row != 1 || one[0].Kind != api.XRef {
		t.Error("P0.3: two lists of one answer share memory")
	}
}

func TestCell(t *testing.T) {
	text := api.Cell{Value: api.Value{Kind: api.VText, Text: strings.Repeat("x", 20)}}
	got := Cell(text)
	if got.Value != text.Value || got.Formula {
		t.Errorf("the copy is %+v", got)
	}
	apart(t, []string{text.Value.Text}, []string{got.Value.Text})
	formula := api.Cell{Formula: true, Expr: tree(t)}
	got = Cell(formula)
	spoil(formula.Expr)
	if !got.Formula || got.Value != (api.Value{}) || !parse.Eq(got.Expr, tree(t)) {
		t.Errorf("the copy is %s", show.Cell(got))
	}
	if got := Cell(api.Cell{}); show.Cell(got) != "" || !show.May(got) {
		t.Errorf("the copy of a blank cell is %+v", got)
	}
}
