package depgraph

import (
	"fmt"
	"maps"
	"slices"
	"strings"
	"testing"

	"counterpane/a1"
	"counterpane/api"
	"counterpane/parse"
	"counterpane/sheet"
	"counterpane/show"
)

const (
	first = "c0n0"
	other = "c1n1"
)

const last = 1<<41 - 1 // line that a sheet has

// cell is what one gets who writes s.
func cell(s string) api.Cell {
	c, err := show.Read(s)
	if err != api.OK {
		panic("the test's own cell " + s + " is none")
	}
	return c
}

// at is the place that s names; without a sheet it is on the first one.
func at(s string) api.At {
	r, ok := a1.Parse(s)
	if !ok {
		panic("the test's own place " + s + " is none")
	}
	if r.Sheet == "" {
		r.Sheet = first
	}
	return api.At{Sheet: r.Sheet, Row: r.Row, Col: r.Col}
}

// name is a place as at reads it.
func name(p api.At) string {
	return strings.TrimPrefix(a1.Print(api.Ref{Sheet: p.Sheet, Row: p.Row, Col: p.Col}), first+"!")
}

func names(l []api.At) string {
	var out []string
	for _, p := range l {
		out = append(out, name(p))
	}
	return strings.Join(out, " ")
}

// contents is what stands in cells, by their names.
type contents map[string]string

func (c contents) names() []string { return slices.Sorted(maps.Keys(c)) }

// book is a workbook with c, and with the sheets that c names.
func (c contents) book() *sheet.Book {
	b := sheet.New()
	for _, s := range c.names() {
		p := at(s)
		b.Apply(api.Op{Kind: api.OAdd, Sheet: p.Sheet, Name: "x"})
		if b.Apply(api.Op{Kind: api.OSet, Sheet: p.Sheet, Row: p.Row, Col: p.Col, Cell: cell(c[s])}) != 1 {
			panic("the test's own operation does not stand")
		}
	}
	return b
}

// ways are graphs that are told c, each by another way.
func (c contents) ways() map[string]*Graph {
	out := map[string]*Graph{"New": New(c.book()), "Set": New(nil), "Set backwards": New(sheet.New()), "Set anew": {}}
	for _, s := range c.names() {
		out["Set"].Set(at(s), cell(c[s]))
	}
	for _, s := range slices.Backward(c.names()) {
		out["Set backwards"].Set(at(s), cell(c[s]))
	}
	anew := out["Set anew"]
	for i, content := range []string{"=A1:Z99+c1n1!A1+A1:B1048576", "1", "=A2", ""} {
		for j, s := range c.names() {
			if (i+j)%3 > 0 {
				anew.Set(at(s), cell(content))
			}
		}
	}
	for _, s := range c.names() {
		anew.Set(at(s), cell(c[s]))
	}
	return out
}

// check asks g, each such as "From A1: B1 B2", "To A1:", "Cyclic: A1", "Order: B1 A1".
func check(t *testing.T, what string, g *Graph, asked ...string) {
	t.Helper()
	for _, ask := range asked {
		call, want, _ := strings.Cut(ask, ":")
		call, place, _ := strings.Cut(call, " ")
		var got []api.At
		switch call {
		case "From":
			got = g.From(at(place))
		case "To":
			got = g.To(at(place))
		case "Cyclic":
			got = g.Cyclic()
		case "Order":
			got = g.Order()
		default:
			panic("the test's own call " + call + " is none")
		}
		if want = strings.TrimSpace(want); names(got) != want {
			t.Errorf("P16.1: %s: %s %s: %s; want %s", what, call, place, names(got), want)
		}
	}
}

func checkWays(t *testing.T, c contents, asked ...string) {
	t.Helper()
	for what, g := range c.ways() {
		check(t, what, g, asked...)
	}
}

func TestNoFormulas(t *testing.T) {
	asked := []string{"From A1:", "To A1:", "Cyclic:", "Order:"}
	check(t, "nil", New(nil), asked...)
	check(t, "a new workbook", New(sheet.New()), asked...)
	checkWays(t, contents{"A1": "1", "B2": "x", "C3": "TRUE", "D4": "#REF!", "A2": "'=A1", "c1n1!A1": ""}, asked...)
	checkWays(t, contents{"A1": "=1+2", "A2": "=\"A1\"&#REF!"}, "From A1:", "From A2:", "To A1:", "To A2:", "Cyclic:", "Order: A1 A2")
}

func TestChain(t *testing.T) {
	checkWays(t, contents{"A1": "7", "A2": "=A1", "A3": "=A2*2", "A4": "=-A3", "A5": "=A4+A2"},
		"From A1:", "From A2:", "From A3: A2", "From A4: A3", "From A5: A2 A4", "From A6:",
		"To A1: A2", "To A2: A3 A5", "To A3: A4", "To A4: A5", "To A5:", "To A6:",
		"Cyclic:", "Order: A2 A3 A4 A5")
	checkWays(t, contents{"A1": "=A2", "A2": "=A3", "A3": "=A4", "A4": "=1", "B1": "=A4"}, "Cyclic:", "Order: A4 B1 A3 A2 A1")
}

func TestEachKindOfNode(t *testing.T) {
	checkWays(t, contents{"A1": "=1", "B1": "=1", "C1": "=1", "D1": "=1", "E1": "=1", "F1": "=1", "G1": "=1",
		"A9": `=IF(-A1>=$B1*(C$1&"D1"),SUM($E$1:F1,1),NOPE())`},
		"From A9: A1 B1 C1 E1 F1", "To A1: A9", "To B1: A9", "To C1: A9", "To D1:", "To E1: A9", "To F1: A9", "To G1:",
		"Cyclic:", "Order: A1 B1 C1 D1 E1 F1 G1 A9")
	// A range refers where it has no worth, too.
	checkWays(t, contents{"A1": "=1", "B1": "=2", "C1": "=A1:B1+1"}, "From C1: A1 B1", "To B1: C1")
}

// A formula that has as many references as may be.
func TestManyReferences(t *testing.T) {
	c, want := contents{}, ""
	var tens []string
	for ten := range 10 {
		var ones []string
		for one := range 10 {
			s := fmt.Sprint("A", 10*ten+one+1)
			c[s] = "=1"
			ones = append(ones, s)
			want += " " + s
		}
		// In brackets, for one sum of all would be too deep.
		tens = append(tens, "("+strings.Join(ones, "+")+")")
	}
	c["B7"] = "=-" + strings.Join(tens, "+")
	if n := parse.Count(cell(c["B7"]).Expr); n != api.MaxNodes {
		t.Errorf("the test's own formula has %d nodes", n)
	}
	checkWays(t, c, "From B7:"+want, "To A1: B7", "To A50: B7", "To A100: B7", "To A101:", "Cyclic:")
}

func TestSheets(t *testing.T) {
	checkWays(t, contents{"A1": "=c1n1!A1", "A2": "=1", "c1n1!A1": "=A2+c0n0!A2", "c1n1!A2": "=c1n1!B2", "c1n1!B2": "=c2n0!A1", "c2n0!A1": "=SUM(c1n1!A1:B1)", "c2n0!B9": "=c0n0!A1:B2+c1n1!B1:A2"},
		"From A1: c1n1!A1", "From A2:", "From c1n1!A1: A2 c1n1!A2", "From c1n1!A2: c1n1!B2", "From c1n1!B2: c2n0!A1", "From c2n0!A1: c1n1!A1", "From c2n0!B9: A1 A2 c1n1!A1 c1n1!A2 c1n1!B2", "From c3n3!A1:",
		"To A1: c2n0!B9", "To A2: c1n1!A1 c2n0!B9", "To c1n1!A1: A1 c2n0!A1 c2n0!B9", "To c1n1!A2: c1n1!A1 c2n0!B9", "To c1n1!B1: c2n0!A1 c2n0!B9", "To c1n1!B2: c1n1!A2 c2n0!B9", "To c2n0!A1: c1n1!B2", "To c2n0!A2:", "To c3n3!A1:",
		"Cyclic: A1 c1n1!A1 c1n1!A2 c1n1!B2 c2n0!A1 c2n0!B9", "Order: A2")
	// Without the reference of the one sheet to the other.
	checkWays(t, contents{"A1": "=c1n1!A1", "A2": "=1", "c1n1!A1": "=A2+c0n0!A2", "c1n1!A2": "=c1n1!B2", "c1n1!B2": "=c2n0!A1", "c2n0!A1": "=2"},
		"Cyclic:", "Order: A2 c2n0!A1 c1n1!B2 c1n1!A2 c1n1!A1 A1")
}

func TestRanges(t *testing.T) {
	grid := contents{}
	for _, s := range []string{"B2", "C2", "D2", "B3", "C3", "D3", "B4", "C4", "D4"} {
		grid[s] = "=1"
	}
	for _, r := range []string{"B2:C3", "C3:B2", "B3:C2", "C2:B3", "$B$2:$C$3", "$C2:B$3", "A1:C3", "c0n0!C3:B2"} {
		grid["F9"] = "=SUM(" + r + ")"
		checkWays(t, grid, "From F9: B2 C2 B3 C3", "To B2: F9", "To C2: F9", "To D2:", "To B3: F9", "To C3: F9", "To D3:", "To B4:", "To C4:", "To D4:",
			"Cyclic:", "Order: B2 C2 D2 B3 C3 D3 B4 C4 D4 F9")
	}
	// One row, one column, one cell, none with a formula.
	for r, want := range map[string]string{"A3:Z3": "B3 C3 D3", "Z3:A3": "B3 C3 D3", "C1:C99": "C2 C3 C4", "C99:C1": "C2 C3 C4", "C3:C3": "C3", "E1:E99": "", "A1:Z1": "", "c1n1!A1:Z99": ""} {
		grid["F9"] = "=" + r
		checkWays(t, grid, "From F9: "+want)
	}
	grid["F9"] = "=c1n1!B3:C2"
	checkWays(t, grid, "From F9:", "To B2:", "To c1n1!B2: F9", "To c1n1!C3: F9", "To c1n1!D3:", "To c1n1!A3:", "To c1n1!B1:", "To c1n1!B4:")
}

// Cells without formulas, and blank ones, are referred to as others are.
func TestReferencesToOtherCells(t *testing.T) {
	checkWays(t, contents{"A1": "1", "A2": "x", "B1": "=A1+A2+A3", "B2": "=SUM(A1:A9)+Z9"},
		"From B1:", "From B2:", "To A1: B1 B2", "To A2: B1 B2", "To A3: B1 B2", "To A9: B2", "To A10:", "To Z9: B2", "Cyclic:", "Order: B1 B2")
}

func TestOneCellNamedTwice(t *testing.T) {
	checkWays(t, contents{"A1": "=1", "A2": "=A1+A1", "A3": "=A1+SUM(A1:A2)+$A$1+c0n0!A1", "A4": "=SUM(A1:A3,A3:A1,A2:A3,A2)+A1:A1"},
		"From A2: A1", "From A3: A1 A2", "From A4: A1 A2 A3", "To A1: A2 A3 A4", "To A2: A3 A4", "To A3: A4", "Cyclic:", "Order: A1 A2 A3 A4")
	// And taken away again, all at once.
	for what, g := range (contents{"A1": "=1", "A2": "=A1+A1:A1+A1:B2+A1+A1:B2"}).ways() {
		check(t, what, g, "To A1: A2", "To B2: A2")
		g.Set(at("A2"), cell("=B1"))
		check(t, what, g, "From A2:", "To A1:", "To B2:", "To B1: A2", "Cyclic:", "Order: A1 A2")
	}
}

func TestRings(t *testing.T) {
	checkWays(t, contents{"A1": "=A1"}, "From A1: A1", "To A1: A1", "Cyclic: A1", "Order:")
	checkWays(t, contents{"B2": "=SUM(A1:C3)"}, "From B2: B2", "To B2: B2", "To A1: B2", "Cyclic: B2", "Order:")
	checkWays(t, contents{"A1": "=B1", "B1": "=A1"}, "From A1: B1", "To A1: B1", "Cyclic: A1 B1", "Order:")
	checkWays(t, contents{"A1": "=c1n1!A1", "c1n1!A1": "=c0n0!A1"}, "Cyclic: A1 c1n1!A1", "Order:")
	checkWays(t, contents{"A1": "=c1n1!A1", "c1n1!A1": "=A1"}, "Cyclic: A1 c1n1!A1", "Order:")
	checkWays(t, contents{"A1": "=SUM(B1:B9)", "B5": "=MAX(A9:A1)"}, "From A1: B5", "From B5: A1", "Cyclic: A1 B5", "Order:")
	checkWays(t, contents{"A1": "=SUM(A1:A1)", "A2": "=A3", "A3": "=A2"}, "Cyclic: A1 A2 A3", "Order:")
	// A range beside the cell itself is no ring.
	checkWays(t, contents{"A5": "=SUM(A1:A4)+SUM(A6:A9)+SUM(B5:Z5)", "A4": "=1", "A6": "=1"}, "From A5: A4 A6", "Cyclic:", "Order: A4 A6 A5")
	// Nor is one that only the worth leaves out.
	checkWays(t, contents{"A1": "=IF(TRUE,1,A1)"}, "Cyclic: A1", "Order:")
}

func TestAboutRings(t *testing.T) {
	// The ring is B1, B2, B3: the A's reach it, the C's are reached by it, the D's neither.
	checkWays(t, contents{"B1": "=B2+C1", "B2": "=B3", "B3": "=B1+C2", "A1": "=B2", "A2": "=A1+D1", "A3": "=SUM(A1:A2)", "C1": "=C2", "C2": "=5", "D1": "=C1", "D2": "=D1+C2"},
		"From B1: C1 B2", "To B1: B3", "To B2: A1 B1", "Cyclic: A1 B1 A2 B2 A3 B3", "Order: C2 C1 D1 D2")
	// Two rings, one of which reaches the other, and a cell between.
	checkWays(t, contents{"A1": "=A2", "A2": "=A1+B1", "B1": "=C1", "C1": "=C2+D1", "C2": "=C1", "D1": "=D2", "D2": "=1"},
		"Cyclic: A1 B1 C1 A2 C2", "Order: D2 D1")
	// Two rings that have a cell in common.
	checkWays(t, contents{"A1": "=A2+A3", "A2": "=A1", "A3": "=A1", "A4": "=A3", "A5": "=7"}, "Cyclic: A1 A2 A3 A4", "Order: A5")
}

func TestRingsOpenAndClose(t *testing.T) {
	for what, g := range (contents{"A1": "=A3", "A2": "=A1", "A3": "=SUM(A2:B2)", "B1": "=A2", "C1": "=1"}).ways() {
		check(t, what, g, "Cyclic: A1 B1 A2 A3", "Order: C1")
		g.Set(at("A2"), cell("5"))
		check(t, what, g, "Cyclic:", "Order: B1 C1 A3 A1", "From A3:", "To A1:", "To A2: B1 A3")
		g.Set(at("B2"), cell("=A1"))
		check(t, what, g, "Cyclic: A1 B2 A3", "Order: B1 C1", "From A3: B2", "To A1: B2")
		g.Set(at("A3"), cell("=A2+B3"))
		check(t, what, g, "Cyclic:", "Order: B1 C1 A3 A1 B2")
		g.Set(at("B3"), cell("=B2"))
		g.Set(at("C1"), cell("=B3+C2"))
		check(t, what, g, "Cyclic: A1 C1 B2 A3 B3", "Order: B1")
		g.Set(at("A3"), cell(""))
		check(t, what, g, "Cyclic:", "Order: A1 B1 B2 B3 C1", "To A3: A1", "From A1:")
		g.Set(at("A1"), cell("=A1"))
		check(t, what, g, "Cyclic: A1 C1 B2 B3", "Order: B1")
	}
}

func TestSetAnew(t *testing.T) {
	for what, g := range (contents{"A1": "=B1", "B1": "=C1", "C1": "=1", "A2": "=B1"}).ways() {
		check(t, what, g, "From A1: B1", "To B1: A1 A2", "Order: C1 B1 A1 A2")
		g.Set(at("A1"), cell("=C1"))
		check(t, what, g, "From A1: C1", "To B1: A2", "To C1: A1 B1", "Order: C1 A1 B1 A2")
		g.Set(at("A1"), cell("=C1"))
		check(t, what, g, "From A1: C1", "To B1: A2", "To C1: A1 B1", "Order: C1 A1 B1 A2")
		g.Set(at("B1"), cell("12"))
		check(t, what, g, "From A2:", "From B1:", "To B1: A2", "To C1: A1", "Order: C1 A1 A2")
		g.Set(at("A1"), cell(""))
		check(t, what, g, "From A1:", "To C1:", "Order: C1 A2")
		g.Set(at("A1"), cell(""))
		g.Set(at("Z9"), cell(""))
		g.Set(at("B1"), cell("=A1:A9"))
		check(t, what, g, "From A2: B1", "From B1: A2", "To A1: B1", "Cyclic: B1 A2", "Order: C1")
		for _, s := range []string{"A2", "B1", "C1"} {
			g.Set(at(s), cell("'=A1"))
		}
		check(t, what, g, "From A2:", "From B1:", "To A1:", "To B1:", "To C1:", "Cyclic:", "Order:")
		g.Set(at("C1"), cell("=C2"))
		check(t, what, g, "To C2: C1", "Order: C1")
	}
}

// A reference to a sheet that is not there finds what comes there, and nothing when that is gone.
func TestSheetsThatComeAndGo(t *testing.T) {
	c := contents{"A1": "=c1n1!A1+SUM(c1n1!B1:C9)", "A2": "=A1"}
	asked := []string{"From A1:", "To c1n1!A1: A1", "To c1n1!B9: A1", "To c1n1!A2:", "Cyclic:", "Order: A1 A2"}
	checkWays(t, c, asked...)
	b := c.book()
	before := New(b)
	b.Apply(api.Op{Kind: api.OAdd, Sheet: other, Name: "x"})
	check(t, "a sheet that came", New(b), asked...)
	set := func(row, col int64, s string) {
		b.Apply(api.Op{Kind: api.OSet, Sheet: other, Row: row, Col: col, Cell: cell(s)})
	}
	set(0, 0, "=1")
	set(3, 2, "=c0n0!A2")
	check(t, "a sheet with formulas", New(b), "From A1: c1n1!A1 c1n1!C4", "To c1n1!A1: A1", "To A2: c1n1!C4", "Cyclic: A1 A2 c1n1!C4", "Order: c1n1!A1")
	b.Apply(api.Op{Kind: api.ORemove, Sheet: other})
	check(t, "a sheet that went", New(b), "From A1:", "To c1n1!A1:", "To c1n1!B9:", "Cyclic:", "Order: A1 A2")
	// What is done on a workbook is nothing that a graph was told.
	check(t, "of the workbook as it was", before, asked...)
	for what, g := range c.ways() {
		g.Set(at("c1n1!A1"), cell("=1"))
		g.Set(at("c1n1!C4"), cell("=c0n0!A2"))
		check(t, what, g, "From A1: c1n1!A1 c1n1!C4", "To c1n1!A1: A1", "To A2: c1n1!C4", "Cyclic: A1 A2 c1n1!C4", "Order: c1n1!A1")
		g.Set(at("c1n1!A1"), cell(""))
		g.Set(at("c1n1!C4"), cell(""))
		check(t, what, g, asked...)
	}
}

func TestLostReferences(t *testing.T) {
	b := contents{"A1": "=1", "A2": "=A1+SUM(A1:A4)+B9", "A5": "=A2+c1n1!A1", "c1n1!A1": "=c0n0!A1"}.book()
	check(t, "ahead", New(b), "From A2: A1 A2", "Cyclic: A2 A5", "Order: A1 c1n1!A1")
	b.Apply(api.Op{Kind: api.ORow, Sheet: first, Line: api.Line{Kind: api.LDel, At: 0}})
	// What was A2 is A1: =#REF!+SUM(#REF!)+B8.
	check(t, "a line that went", New(b), "From A1:", "From A4: A1 c1n1!A1", "From c1n1!A1:", "To A1: A4", "To B8: A1", "To B9:", "To c1n1!A1: A4", "Cyclic:", "Order: A1 c1n1!A1 A4")
	b.Apply(api.Op{Kind: api.ORemove, Sheet: other})
	check(t, "a sheet that went", New(b), "From A4: A1", "To c1n1!A1:", "Order: A1 A4")
	b.Apply(api.Op{Kind: api.ORow, Sheet: first, Line: api.Line{Kind: api.LMove, At: 0, To: 9}})
	check(t, "a line that moved", New(b), "From A3: A9", "To A9: A3", "To B7: A9", "Order: A9 A3")
	checkWays(t, contents{"A1": "=#REF!+#REF!", "A2": "=SUM(#REF!,A1)"}, "From A1:", "From A2: A1", "Order: A1 A2")
}

func TestAnswersAreInOrder(t *testing.T) {
	// By bytes c10n0 is ahead of c1n1, and that of c2n0; rows go ahead of columns, and numbers go by their worth.
	sheets := []string{"c0n0", "c0n10", "c0n2", "c10n0", "c15n999999", "c1n1", "c1n10", "c1n2", "c2n0", "c9n9"}
	places := []string{"A1", "B1", "Z1", "AA1", "A2", "B2", "A10", "AA10", "A100"}
	c, want, sum := contents{}, "", "=1"
	for _, id := range sheets {
		for _, s := range places {
			p := name(at(id + "!" + s))
			c[p] = "=c5n5!A1"
			want += " " + p
		}
		sum += "+SUM(" + id + "!A1:AZ100)"
	}
	checkWays(t, c, "To c5n5!A1:"+want, "Order:"+want, "Cyclic:")
	c["c5n5!B1"] = sum
	checkWays(t, c, "From c5n5!B1:"+want)
	c["c5n5!A1"] = "=B1"
	checkWays(t, c, "Cyclic:"+strings.Replace(want, " c9n9!A1", " c5n5!A1 c5n5!B1 c9n9!A1", 1), "Order:")
}

// Of several that might come next the first one comes, also if it could not come earlier.
func TestTheFirstComesNext(t *testing.T) {
	checkWays(t, contents{"A1": "=C3", "A2": "=1", "B2": "=1", "C3": "=1", "D4": "=A2", "A4": "=D4", "A5": "=1"}, "Order: A2 B2 C3 A1 D4 A4 A5")
	checkWays(t, contents{"A1": "=Z9", "B1": "=A1", "C1": "=1", "Z9": "=C1", "D1": "=2", "Z8": "=3"}, "Order: C1 D1 Z8 Z9 A1 B1")
	checkWays(t, contents{"A1": "=c1n1!A1", "c10n0!A1": "=1", "c1n1!A1": "=c2n0!A1", "c1n1!B1": "=1", "c2n0!A1": "=1", "A2": "=1"},
		"Order: A2 c10n0!A1 c1n1!B1 c2n0!A1 c1n1!A1 A1")
	// One that waits for several comes behind the last of them.
	checkWays(t, contents{"A1": "=B1+D1", "B1": "=1", "C1": "=1", "D1": "=1", "E1": "=1", "A2": "=SUM(B1:C1)"}, "Order: B1 C1 D1 A1 E1 A2")
}

// Of great ranges that have few formulas not each cell can be gone through.
func TestGreatRanges(t *testing.T) {
	end := a1.Print(api.Ref{Row: last, Col: last})
	bottom, right := a1.Print(api.Ref{Row: last}), a1.Print(api.Ref{Col: last})
	checkWays(t, contents{"A1": "=1", bottom: "=A1", right: "=SUM(A1:" + bottom + ")", end: "=SUM(A1:" + right + ")+A2", "c1n1!A1": "=SUM(c0n0!A1:" + end + ")", "c1n1!B2": "=SUM(c0n0!" + end + ":B2)"},
		"From "+bottom+": A1", "From "+right+": A1 "+bottom, "From "+end+": A1 "+right, "From c1n1!A1: A1 "+right+" "+bottom+" "+end, "From c1n1!B2: "+end,
		"To A1: "+right+" "+bottom+" "+end+" c1n1!A1", "To "+end+": c1n1!A1 c1n1!B2", "To "+bottom+": "+right+" c1n1!A1", "To B1: "+end+" c1n1!A1", "To ZZZ99999: c1n1!A1 c1n1!B2",
		"Cyclic:", "Order: A1 "+bottom+" "+right+" "+end+" c1n1!A1 c1n1!B2")
	checkWays(t, contents{end: "=A1:" + end}, "From "+end+": "+end, "To "+end+": "+end, "To A1: "+end, "Cyclic: "+end, "Order:")
	checkWays(t, contents{"B2": "=SUM(A1:" + bottom + ")", "C3": "=SUM(D1:" + end + ")", "A7": "=SUM(B1:C" + bottom[1:] + ")"},
		"From B2: A7", "From C3:", "From A7: B2 C3", "To B2: A7", "To "+end+": C3", "To A1: B2", "Cyclic: B2 A7", "Order: C3")
}
