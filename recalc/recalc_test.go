package recalc

import (
	"fmt"
	"slices"
	"strings"
	"testing"

	"counterpane/a1"
	"counterpane/api"
	"counterpane/sheet"
	"counterpane/show"
)

const (
	first = "c0n0"
	other = "c1n1"
)

const last = 1<<41 - 1 // line that a sheet has

// cell is what one gets who writes s.
func cell(s string) api.Cell {
	c, err := show.Read(s)
	if err != api.OK {
		panic("the test's own cell " + s + " is none")
	}
	return c
}

// at is the place that s names; without a sheet it is on the first one.
func at(s string) api.At {
	r, ok := a1.Parse(s)
	if !ok {
		panic("the test's own place " + s + " is none")
	}
	if r.Sheet == "" {
		r.Sheet = first
	}
	return api.At{Sheet: r.Sheet, Row: r.Row, Col: r.Col}
}

// name is a place as at reads it.
func name(p api.At) string {
	return strings.TrimPrefix(a1.Print(api.Ref{Sheet: p.Sheet, Row: p.Row, Col: p.Col}), first+"!")
}

// The operations that tests ask for.

// put writes s at a place.
func put(place, s string) api.Op {
	p := at(place)
	return api.Op{Kind: api.OSet, Sheet: p.Sheet, Row: p.Row, Col: p.Col, Cell: cell(s)}
}

// puts writes what is told as "A1: =B1 | B1: 5".
func puts(told string) []api.Op {
	var out []api.Op
	for s := range strings.SplitSeq(told, " | ") {
		place, content, ok := strings.Cut(s, ": ")
		if !ok {
			place, content = strings.TrimSuffix(s, ":"), ""
		}
		out = append(out, put(place, content))
	}
	return out
}

func rows(id string, l api.Line) api.Op { return api.Op{Kind: api.ORow, Sheet: id, Line: l} }
func cols(id string, l api.Line) api.Op { return api.Op{Kind: api.OCol, Sheet: id, Line: l} }
func format(id string, n int, rs ...api.Rect) api.Op {
	return api.Op{Kind: api.OFormat, Sheet: id, Rects: rs, Format: n}
}
func add(id, name string) api.Op    { return api.Op{Kind: api.OAdd, Sheet: id, Name: name} }
func rename(id, name string) api.Op { return api.Op{Kind: api.ORename, Sheet: id, Name: name} }
func remove(id string) api.Op       { return api.Op{Kind: api.ORemove, Sheet: id} }

func ins(at int64) api.Line      { return api.Line{Kind: api.LIns, At: at} }
func del(at int64) api.Line      { return api.Line{Kind: api.LDel, At: at} }
func move(at, to int64) api.Line { return api.Line{Kind: api.LMove, At: at, To: to} }

func rect(r0, c0, r1, c1 int64) api.Rect { return api.Rect{R0: r0, C0: c0, R1: r1, C1: c1} }

// worth is a cell's as one writes it.
func worth(c *Calc, place string) string {
	return show.Cell(api.Cell{Value: c.Value(at(place))})
}

// check asks for worths, told as "A1=5 B1=x c1n1!A1=" (a blank).
func check(t *testing.T, what string, c *Calc, wants ...string) {
	t.Helper()
	for _, want := range strings.Fields(strings.Join(wants, " ")) {
		place, want, _ := strings.Cut(want, "=")
		if got := worth(c, place); got != want {
			t.Errorf("P17.1: %s: %s is worth %s; want %s", what, place, got, want)
		}
	}
}

// apply does os, which all stand.
func apply(t *testing.T, c *Calc, os ...api.Op) {
	t.Helper()
	if n := c.Apply(os...); n != len(os) {
		t.Errorf("P17.1: of %d operations %d stood", len(os), n)
	}
}

// run does os, which all stand, and wants so many formulas to be evaluated.
func run(t *testing.T, c *Calc, want int, os ...api.Op) {
	t.Helper()
	before := c.Runs()
	apply(t, c, os...)
	if got := c.Runs() - before; got != want {
		t.Errorf("P17.1: %+v: %d formulas were evaluated; want %d", os, got, want)
	}
}

// ways are workbooks behind os, each by another way.
func ways(t *testing.T, os ...api.Op) map[string]*Calc {
	t.Helper()
	b := sheet.New()
	b.Apply(os...)
	out := map[string]*Calc{"all in one": New(nil), "one by one": New(sheet.New()), "in two": New(nil), "of a workbook": New(b)}
	apply(t, out["all in one"], os...)
	for _, o := range os {
		apply(t, out["one by one"], o)
	}
	apply(t, out["in two"], os[:len(os)/2]...)
	out["of a clone"] = out["in two"].Clone()
	apply(t, out["in two"], os[len(os)/2:]...)
	apply(t, out["of a clone"], os[len(os)/2:]...)
	for what, c := range out {
		if !c.Eq(b) {
			t.Errorf("P17.1: %s: the workbook is not as it was done", what)
		}
	}
	return out
}

// checkWays asks for worths behind os, by all ways.
func checkWays(t *testing.T, os []api.Op, wants ...string) {
	t.Helper()
	for what, c := range ways(t, os...) {
		check(t, what, c, wants...)
	}
}

func TestNew(t *testing.T) {
	for what, c := range map[string]*Calc{"nil": New(nil), "a new workbook": New(sheet.New()), "a zero workbook": New(new(sheet.Book))} {
		check(t, what, c, "A1= B2= c1n1!A1=")
		if !c.Eq(sheet.New()) || c.Runs() != 0 {
			t.Errorf("P17.1: %s: not as a new workbook, or %d runs", what, c.Runs())
		}
		run(t, c, 1, puts("A1: 5 | A2: =A1*2")...)
		check(t, what, c, "A1=5 A2=10")
	}
	b := sheet.New()
	b.Apply(puts("A1: 5 | A2: =A1*2 | A3: =A2+A1 | A4: =A4 | A5: =A4 | B1: x")...)
	c := New(b)
	check(t, "a workbook", c, "A1=5 A2=10 A3=15 A4=#CYCLE! A5=#CYCLE! B1=x")
	if c.Runs() != 2 {
		t.Errorf("P17.1: %d runs of a new one of two formulas beside a ring", c.Runs())
	}
}

func TestCellsWithoutFormulas(t *testing.T) {
	os := puts("A1: -12.5 | B1: x y | C1: TRUE | D1: #N/A | E1: ' | F1: #CYCLE! | G1: '=A1 | H1: 0 | I1: FALSE")
	for what, c := range ways(t, os...) {
		for place, want := range map[string]api.Value{
			"A1": {Kind: api.VNumber, Num: -125000}, "B1": {Kind: api.VText, Text: "x y"}, "C1": {Kind: api.VBool, Bool: true}, "D1": {Kind: api.VError, Err: api.ENone},
			"E1": {Kind: api.VText}, "F1": {Kind: api.VError, Err: api.ECycle}, "G1": {Kind: api.VText, Text: "=A1"}, "H1": {Kind: api.VNumber}, "I1": {Kind: api.VBool}, "J1": {}, "A2": {}, "c9n9!A1": {},
		} {
			if got := c.Value(at(place)); got != want {
				t.Errorf("P17.1: %s: %s is worth %v; want %v", what, place, got, want)
			}
		}
		if c.Runs() != 0 {
			t.Errorf("P17.1: %s: %d runs without a formula", what, c.Runs())
		}
	}
}

func TestEachKindOfWorth(t *testing.T) {
	checkWays(t, puts(`A1: =1.5 | A2: ="x"&"y" | A3: =1<2 | A4: =1/0 | A5: =#N/A | A6: =Z9 | A7: =-A1 | A8: =NOPE() | A9: =A1:A2 | B1: =IF(A3,A2,A4) | B2: =ISERROR(A4) | B3: =LEN(A6) | B4: =A6+1`),
		"A1=1.5 A2=xy A3=TRUE A4=#DIV/0! A5=#N/A A6= A7=-1.5 A8=#NAME? A9=#VALUE! B1=xy B2=TRUE B3=0 B4=1")
	c := New(nil)
	apply(t, c, puts("A1: =Z9 | A2: =B9 | B9: '")...)
	if got := c.Value(at("A1")); got != (api.Value{}) {
		t.Errorf("P17.1: a formula of a blank cell is worth %v", got)
	}
	if got := c.Value(at("A2")); got != (api.Value{Kind: api.VText}) {
		t.Errorf("P17.1: a formula of an empty text is worth %v", got)
	}
}

func TestChains(t *testing.T) {
	checkWays(t, puts("A1: 7 | A2: =A1+1 | A3: =A2*2 | A4: =-A3 | A5: =A4+A2"), "A1=7 A2=8 A3=16 A4=-16 A5=-8")
	// The last comes first.
	checkWays(t, puts("A5: =A4+A2 | A4: =-A3 | A3: =A2*2 | A2: =A1+1 | A1: 7"), "A1=7 A2=8 A3=16 A4=-16 A5=-8")
	checkWays(t, puts("B1: =C1&1 | C1: =D1&2 | A1: =B1&0 | D1: x | D1: y"), "A1=y210 B1=y21 C1=y2 D1=y")
	for what, c := range ways(t, puts("A1: 7 | A2: =A1+1 | A3: =A2*2 | A4: =-A3 | A5: =A4+A2")...) {
		apply(t, c, put("A1", "1"))
		check(t, what, c, "A1=1 A2=2 A3=4 A4=-4 A5=-2")
		apply(t, c, put("A3", "100"))
		check(t, what, c, "A1=1 A2=2 A3=100 A4=-100 A5=-98")
	}
}

// Two ways from one cell to another, a long and a short one.
func TestDiamonds(t *testing.T) {
	for what, c := range ways(t, puts("A1: 1 | B1: =A1 | C1: =B1 | D1: =C1 | Z1: =A1+D1 | Z2: =Z1+A1+B1 | A9: =Z2*10")...) {
		check(t, what, c, "Z1=2 Z2=4 A9=40")
		run(t, c, 6, put("A1", "5"))
		check(t, what, c, "Z1=10 Z2=20 A9=200")
	}
}

func TestRanges(t *testing.T) {
	os := puts("A1: 1 | B1: 2 | A2: 3 | B2: 4 | C3: 100 | D1: =SUM(A1:B2) | D2: =SUM(B2:A1) | D3: =MAX($A2:B$1) | D4: =COUNT(A1:C3) | D5: =AVERAGE(A1:A9,B1) | D6: =SUM(D1:D3) | D7: =COUNT(E1:F9)")
	checkWays(t, os, "D1=10 D2=10 D3=4 D4=5 D5=2 D6=24 D7=0")
	for what, c := range ways(t, os...) {
		run(t, c, 6, put("A2", "x"))
		check(t, what, c, "D1=7 D2=7 D3=4 D4=4 D5=1.5 D6=18")
		run(t, c, 5, put("B2", ""))
		check(t, what, c, "D1=3 D2=3 D3=2 D4=3 D5=1.5 D6=8")
		run(t, c, 7, put("A2", "=C3"))
		check(t, what, c, "D1=103 D2=103 D3=100 D4=4 D6=306")
		run(t, c, 7, put("C3", "7"))
	}
}

func TestSheets(t *testing.T) {
	os := append([]api.Op{add(other, "x"), add("c10n0", "y")}, puts("A1: =c1n1!A1+1 | c1n1!A1: =c10n0!B2*2 | c10n0!B2: =SUM(c0n0!B1:B9) | B1: 1 | B9: 2 | c1n1!B1: 100 | c1n1!A2: =B1+c0n0!B1 | c10n0!A1: =A1")...)
	checkWays(t, os[:len(os)-1], "A1=7 c1n1!A1=6 c10n0!B2=3 c1n1!A2=101 B2= c1n1!B2= c9n9!A1=")
	for what, c := range ways(t, os...) {
		check(t, what, c, "A1=7 c10n0!A1=#CYCLE!")
		run(t, c, 3, put("B5", "10"))
		check(t, what, c, "A1=27 c1n1!A1=26 c10n0!B2=13 c1n1!A2=101")
		run(t, c, 4, put("B1", "0"))
		check(t, what, c, "A1=25 c1n1!A1=24 c10n0!B2=12 c1n1!A2=100")
		// The same place of another sheet is another cell.
		run(t, c, 1, put("c1n1!B1", "7"))
		run(t, c, 0, put("c10n0!B9", "7"))
		check(t, what, c, "A1=25 c1n1!A2=7")
	}
}

func TestSetAnew(t *testing.T) {
	for what, c := range ways(t, puts("A1: 1 | B1: =A1 | C1: =B1+1 | D1: =SUM(A1:C1)")...) {
		check(t, what, c, "B1=1 C1=2 D1=4")
		apply(t, c, put("B1", "=A1*10"))
		check(t, what, c, "B1=10 C1=11 D1=22")
		apply(t, c, put("B1", "7"))
		check(t, what, c, "B1=7 C1=8 D1=16")
		apply(t, c, put("A1", "2"))
		check(t, what, c, "B1=7 C1=8 D1=17")
		apply(t, c, put("B1", ""))
		check(t, what, c, "B1= C1=1 D1=3")
		apply(t, c, put("B1", "=A1&A1"))
		check(t, what, c, "B1='22 C1=23 D1=25")
		apply(t, c, put("A1", ""))
		check(t, what, c, "A1= B1=' C1=#VALUE! D1=#VALUE!")
		apply(t, c, put("C1", ""))
		check(t, what, c, "C1= D1=0")
		apply(t, c, put("D1", ""), put("D1", ""), put("Z9", ""))
		check(t, what, c, "D1= A1= Z9=")
		apply(t, c, put("A1", "=D1"), put("D1", "=3"))
		check(t, what, c, "A1=3 B1='33 C1= D1=3")
	}
}

// What comes last counts, and of all that is done at once each formula is evaluated once.
func TestManySetsAtOnce(t *testing.T) {
	c := New(nil)
	run(t, c, 1, puts("A1: =1 | A1: =2 | A1: 3 | A1: =A2 | A2: 5 | A2: 6")...)
	check(t, "set again and again", c, "A1=6 A2=6")
	run(t, c, 0, puts("A1: =A2 | A1: 9 | A2: =A1 | A2:")...)
	check(t, "set again and again", c, "A1=9 A2=")
	run(t, c, 3, puts("A1: 1 | B1: =A1 | C1: =A1+B1 | D1: =A1+B1+C1 | A1: 2")...)
	check(t, "set with those that come to it", c, "B1=2 C1=4 D1=8")
	run(t, c, 3, puts("B1: =A1 | C1: =A1+B1 | A1: 3 | A2: 7 | B1: =A2")...)
	check(t, "set with those that come to it", c, "B1=7 C1=10 D1=20")
	// In between it is a ring.
	run(t, c, 4, puts("A1: =D1 | D1: 1 | C1: =D1 | B1: =C1 | D1: =Z1 | A2: =A1 | D1: 2")...)
	check(t, "a ring in between", c, "A1=2 B1=2 C1=2 D1=2 A2=2")
}

func TestLines(t *testing.T) {
	os := append([]api.Op{add(other, "x")}, puts("A1: 1 | A2: 2 | A3: 3 | A4: =SUM(A1:A3) | A5: =A4*A2 | B1: =A5 | c1n1!A1: =c0n0!A2+SUM(c0n0!A1:A3) | c1n1!B2: =c1n1!A1")...)
	for what, x := range map[string]struct {
		os    []api.Op
		wants string
	}{
		"none":                   {nil, "A4=6 A5=12 B1=12 c1n1!A1=8 c1n1!B2=8"},
		"a row comes":            {[]api.Op{rows(first, ins(0))}, "A1= A2=1 A5=6 A6=12 B1= B2=12 c1n1!A1=8"},
		"a row within":           {[]api.Op{rows(first, ins(1)), put("A2", "10")}, "A1=1 A2=10 A3=2 A5=16 A6=32 B1=32 c1n1!A1=18"},
		"a row behind the range": {[]api.Op{rows(first, ins(3)), put("A4", "10")}, "A4=10 A5=6 A6=12"},
		"a row goes":             {[]api.Op{rows(first, del(1))}, "A1=1 A2=3 A3=4 A4=#REF! B1=#REF! c1n1!A1=#REF! c1n1!B2=#REF! A5="},
		"an end of the range":    {[]api.Op{rows(first, del(0))}, "A1=2 A2=3 A3=#REF! A4=#REF! B1= c1n1!A1=#REF!"},
		"the sum goes":           {[]api.Op{rows(first, del(3))}, "A3=3 A4=#REF! B1=#REF! c1n1!A1=8"},
		"a row moves":            {[]api.Op{rows(first, move(1, 5))}, "A1=1 A2=3 A3=4 A4=8 A5=2 B1=8 c1n1!A1=6"},
		"the end moves":          {[]api.Op{rows(first, move(2, 0))}, "A1=3 A2=1 A3=2 A4=4 A5=8 B2=8 c1n1!A1=6"},
		"a column comes":         {[]api.Op{cols(first, ins(0))}, "A1= B4=6 B5=12 C1=12 c1n1!A1=8"},
		"a column goes":          {[]api.Op{cols(first, del(0))}, "A1=#REF! A4= c1n1!A1=#REF! c1n1!B2=#REF!"},
		"of the other sheet":     {[]api.Op{rows(other, del(0))}, "A4=6 c1n1!A1= c1n1!B1=#REF!"},
		"columns move":           {[]api.Op{cols(first, move(0, 2)), cols(other, move(1, 0))}, "B4=6 B5=12 A1=12 c1n1!B1=8 c1n1!A2=8"},
		"there and back":         {[]api.Op{rows(first, ins(0)), cols(first, ins(0)), rows(first, del(0)), cols(first, del(0))}, "A4=6 A5=12 B1=12 c1n1!A1=8"},
	} {
		all := append(slices.Clone(os), x.os...)
		checkWays(t, all, x.wants)
		// What is set behind the lines finds the formulas where they are now.
		c := New(nil)
		apply(t, c, all...)
		d := New(c.Book)
		for _, o := range puts("A1: 100 | A2: =A1 | A3: 50 | B2: 1") {
			apply(t, c, o)
			apply(t, d, o)
			again := New(c.Book)
			for _, id := range c.Sheets() {
				for _, p := range c.Cells(id) {
					if c.Value(p) != again.Value(p) || c.Value(p) != d.Value(p) {
						t.Errorf("P17.1: %s: %s is worth %v; want %v", what, name(p), c.Value(p), again.Value(p))
					}
				}
			}
		}
	}
}

// A line that goes takes the middle of a range with it, so that less is summed up.
func TestALineWithinARangeGoes(t *testing.T) {
	for what, c := range ways(t, puts("A1: 1 | A2: 2 | A3: =A5 | A5: 7 | B1: =SUM(A1:A4) | B2: =COUNT(A1:A4)")...) {
		check(t, what, c, "B1=10 B2=3")
		apply(t, c, rows(first, del(2)))
		check(t, what, c, "A3= A4=7 B1=3 B2=2")
		run(t, c, 2, put("A3", "20"))
		check(t, what, c, "B1=23 B2=3")
		run(t, c, 0, put("A4", "8"))
	}
}

func TestTheLastLine(t *testing.T) {
	end := a1.Print(api.Ref{Row: last, Col: last})
	for what, c := range ways(t, puts(end+": 5 | A1: ="+end+" | A2: =SUM(A3:"+end+") | A3: 1")...) {
		check(t, what, c, "A1=5 A2=6")
		run(t, c, 2, put(end, "7"))
		check(t, what, c, "A1=7 A2=8")
		// It is pushed beyond.
		apply(t, c, cols(first, ins(9)))
		check(t, what, c, "A1=#REF! A2=#REF! A3=1", end+"=")
	}
}

func TestSheetsThatComeAndGo(t *testing.T) {
	for what, c := range ways(t, puts("A1: =c1n1!A1 | A2: =SUM(c1n1!A1:B9) | A3: =A1+1 | A4: =ISERROR(A2) | A5: =COUNT(A1:A4)")...) {
		check(t, what, c, "A1=#REF! A2=#REF! A3=#REF! A4=TRUE A5=#REF!")
		apply(t, c, add(other, "x"))
		check(t, what, c, "A1= A2=0 A3=1 A4=FALSE A5=2")
		run(t, c, 6, put("c1n1!A1", "=c0n0!B1"))
		check(t, what, c, "A1= A2=0 A3=1")
		run(t, c, 6, put("B1", "4"))
		check(t, what, c, "c1n1!A1=4 A1=4 A2=4 A3=5 A4=FALSE A5=3")
		apply(t, c, rename(other, "y"), put("c1n1!B2", "10"))
		check(t, what, c, "A2=14 A3=5")
		apply(t, c, remove(other))
		check(t, what, c, "A1=#REF! A2=#REF! A3=#REF! A4=TRUE c1n1!A1= c1n1!B2=")
		// The references are lost, even if it came again; but its id was used.
		if n := c.Apply(add(other, "x"), put("c1n1!A1", "1")); n != 0 {
			t.Errorf("P17.1: %s: %d operations stood", what, n)
		}
		check(t, what, c, "A1=#REF! A2=#REF! c1n1!A1=")
	}
	// All at once, and what is set on the sheet ahead of its end.
	os := append(puts("A1: =c1n1!A1 | A2: =c2n2!A1"), add(other, "x"), add("c2n2", "y"), put("c1n1!A1", "5"), put("c2n2!A1", "=c1n1!A1+c0n0!A1"))
	checkWays(t, os, "A1=5 A2=10")
	checkWays(t, append(os, remove(other)), "A1=#REF! A2=#REF! c2n2!A1=#REF!")
	checkWays(t, append(os, remove("c2n2"), put("c1n1!A1", "6")), "A1=6 A2=#REF!")
	checkWays(t, append(os, remove(first)), "A1= c1n1!A1=5 c2n2!A1=#REF!")
}

func TestRings(t *testing.T) {
	checkWays(t, puts("A1: =A1"), "A1=#CYCLE!")
	checkWays(t, puts("B2: =SUM(A1:C3) | A1: 5"), "B2=#CYCLE! A1=5")
	checkWays(t, puts("A1: =B1 | B1: =A1 | C1: 1"), "A1=#CYCLE! B1=#CYCLE! C1=1")
	checkWays(t, puts("A1: =SUM(B1:B9) | B5: =MAX(A9:A1)"), "A1=#CYCLE! B5=#CYCLE!")
	checkWays(t, append([]api.Op{add(other, "x")}, puts("A1: =c1n1!A1 | c1n1!A1: =c0n0!A1 | c1n1!A2: =A1")...), "A1=#CYCLE! c1n1!A1=#CYCLE! c1n1!A2=#CYCLE!")
	// One that only the worth leaves out, and one that hides errors, are rings all the same.
	checkWays(t, puts("A1: =IF(TRUE,1,A1) | A2: =ISERROR(A1) | A3: =IF(TRUE,2,A2) | A4: =COUNT(A1:A1) | A5: =OR(TRUE,A4)"), "A1=#CYCLE! A2=#CYCLE! A3=#CYCLE! A4=#CYCLE! A5=#CYCLE!")
	// Beside the cell itself a range is none.
	checkWays(t, puts("A3: =SUM(A1:A2)+SUM(A4:A9) | A1: 1 | A9: =A1"), "A3=2")
	// Nor is an error that has the same name.
	checkWays(t, puts("A1: #CYCLE! | A2: =A1 | A3: =ISERROR(A2) | A4: =#CYCLE!"), "A1=#CYCLE! A2=#CYCLE! A3=TRUE A4=#CYCLE!")
}

func TestCellsThatReachRings(t *testing.T) {
	os := puts("B1: =B2+C1 | B2: =B3 | B3: =B1+C2 | A1: =B2 | A2: =A1+D1 | A3: =SUM(A1:A2) | A4: =ISERROR(A3) | C1: =C2 | C2: 5 | D1: =C1 | D2: =D1+C2 | E1: =IF(FALSE,A4,1)")
	checkWays(t, os, "B1=#CYCLE! B2=#CYCLE! B3=#CYCLE! A1=#CYCLE! A2=#CYCLE! A3=#CYCLE! A4=#CYCLE! E1=#CYCLE! C1=5 C2=5 D1=5 D2=10")
	for what, c := range ways(t, os...) {
		// Those of the ring and those that reach it are not evaluated.
		run(t, c, 3, put("C2", "6"))
		check(t, what, c, "B1=#CYCLE! B3=#CYCLE! A1=#CYCLE! C1=6 D1=6 D2=12")
		// One that comes to reach it, and those that come to that.
		run(t, c, 0, put("D1", "=B3"))
		check(t, what, c, "D1=#CYCLE! D2=#CYCLE! A2=#CYCLE! C1=6")
		run(t, c, 1, put("F1", "=C1"))
		run(t, c, 0, put("F2", "=E1"), put("F3", "=SUM(F1:F2)"), put("F4", "=F3&1"))
		check(t, what, c, "F1=6 F2=#CYCLE! F3=#CYCLE! F4=#CYCLE!")
		// One that stops reaching it, beside the ring.
		run(t, c, 3, put("F2", "=F1"))
		check(t, what, c, "F2=6 F3=12 F4='121 E1=#CYCLE! B1=#CYCLE!")
		// The ring is opened: all that come to it are worth something.
		run(t, c, 9, put("B2", "1"))
		check(t, what, c, "B1=7 B2=1 B3=13 A1=1 A2=14 A3=15 A4=FALSE D1=13 D2=19 E1=1 F4='121")
	}
}

func TestRingsOpenAndClose(t *testing.T) {
	for what, c := range ways(t, puts("A1: =A3 | A2: =A1 | A3: =SUM(A2:B2) | B1: =A2 | C1: =1")...) {
		check(t, what, c, "A1=#CYCLE! A2=#CYCLE! A3=#CYCLE! B1=#CYCLE! C1=1")
		apply(t, c, put("A2", "5"))
		check(t, what, c, "A1=5 A2=5 A3=5 B1=5")
		apply(t, c, put("B2", "=A1"))
		check(t, what, c, "A1=#CYCLE! A3=#CYCLE! B2=#CYCLE! B1=5 A2=5")
		apply(t, c, put("A3", "=A2+B3"))
		check(t, what, c, "A3=5 A1=5 B2=5")
		apply(t, c, put("B3", "=B2"), put("C1", "=B3+C2"))
		check(t, what, c, "A1=#CYCLE! A3=#CYCLE! B2=#CYCLE! B3=#CYCLE! C1=#CYCLE! B1=5")
		apply(t, c, put("A3", ""))
		check(t, what, c, "A1= A3= B2= B3= C1=0")
		apply(t, c, put("A1", "=A1"))
		check(t, what, c, "A1=#CYCLE! B2=#CYCLE! B3=#CYCLE! C1=#CYCLE! A2=5")
		apply(t, c, put("A1", "=2"))
		check(t, what, c, "A1=2 B2=2 B3=2 C1=2")
	}
}

// Rings that lines and sheets close and open.
func TestRingsAndLines(t *testing.T) {
	for what, c := range ways(t, puts("A1: 1 | A2: 2 | A3: =SUM(A1:A2) | B1: =A3")...) {
		// A range whose end moves comes to hold the formula itself.
		apply(t, c, rows(first, move(1, 5)))
		check(t, what, c, "A1=1 A2=#CYCLE! A5=2 B1=#CYCLE!")
		apply(t, c, rows(first, move(4, 0)))
		check(t, what, c, "A1=2 A2=1 A3=3 B2=3 B1=")
	}
	for what, c := range ways(t, append([]api.Op{add(other, "x")}, puts("A1: =c1n1!A1 | c1n1!A1: =c0n0!A2 | A2: =A1+#REF! | A3: =A1")...)...) {
		check(t, what, c, "A1=#CYCLE! A2=#CYCLE! A3=#CYCLE! c1n1!A1=#CYCLE!")
		d := c.Clone()
		apply(t, c, remove(other))
		check(t, what, c, "A1=#REF! A2=#REF! A3=#REF!")
		apply(t, d, rows(first, del(1)))
		check(t, what, d, "A1=#REF! A2=#REF! c1n1!A1=#REF!")
	}
}

func TestErrorsGoThrough(t *testing.T) {
	for what, c := range ways(t, puts("A1: 0 | A2: =1/A1 | A3: =A2+1 | A4: =SUM(A1:A3) | A5: =ISERROR(A4) | A6: =A4&#N/A | A7: =IF(A5,7,A6) | B1: #N/A | B2: =B1+A4")...) {
		check(t, what, c, "A2=#DIV/0! A3=#DIV/0! A4=#DIV/0! A5=TRUE A6=#DIV/0! A7=7 B2=#DIV/0!")
		apply(t, c, put("A1", "2"))
		check(t, what, c, "A2=0.5 A3=1.5 A4=4 A5=FALSE A6=#N/A A7=#N/A B2=#N/A")
		apply(t, c, put("A1", "=#NUM!"))
		check(t, what, c, "A1=#NUM! A2=#NUM! A4=#NUM! A5=TRUE A7=7 B2=#NUM!")
		apply(t, c, put("A1", "x"))
		check(t, what, c, "A2=#VALUE! A4=#VALUE! A7=7 B2=#VALUE!")
	}
}

func TestOperationsThatDoNotStand(t *testing.T) {
	c := New(nil)
	apply(t, c, puts("A1: 1 | A2: =A1 | A3: =c1n1!A1")...)
	before := c.Runs()
	if n := c.Apply(put("c1n1!A1", "5"), put("c9n9!A1", "=A1"), rows(other, ins(0)), cols("c9n9", del(0)), format(other, 1, rect(0, 0, 1, 1)), add(first, "x"), rename(other, "x"), remove(other)); n != 0 {
		t.Errorf("P17.1: %d operations stood", n)
	}
	if n := c.Apply(); n != 0 || c.Runs() != before {
		t.Errorf("P17.1: of none %d stood; %d runs", n, c.Runs()-before)
	}
	check(t, "behind what does not stand", c, "A1=1 A2=1 A3=#REF! c1n1!A1= c9n9!A1=")
	// Among others that do.
	if n := c.Apply(put("c1n1!A1", "5"), put("A1", "7"), remove(other), put("c9n9!A1", "=c9n9!A1")); n != 1 || c.Runs() != before+1 {
		t.Errorf("P17.1: %d stood, %d runs", n, c.Runs()-before)
	}
	check(t, "behind one that stands", c, "A1=7 A2=7 A3=#REF!")
	if n := c.Apply(put("c1n1!A1", "5"), add(other, "x"), put("c1n1!A2", "6"), add(other, "y"), put("c1n1!A3", "=A2"), rename("c9n9", "z")); n != 3 {
		t.Errorf("P17.1: %d stood", n)
	}
	check(t, "behind a sheet that came", c, "A1=7 A2=7 A3= c1n1!A1= c1n1!A2=6 c1n1!A3=6")
	if n := c.Apply(remove(other), put("c1n1!A1", "5"), put("A1", "=8")); n != 2 {
		t.Errorf("P17.1: %d stood", n)
	}
	check(t, "behind a sheet that went", c, "A1=8 A2=8 A3=#REF! c1n1!A1= c1n1!A2=")
}

func TestRuns(t *testing.T) {
	c := New(nil)
	run(t, c, 0, put("A1", "1"))
	run(t, c, 1, put("B1", "=A1"))
	run(t, c, 1, put("B2", "=SUM(B1:B1)"))
	run(t, c, 1, put("B3", "=SUM(A1:B2)"))
	run(t, c, 1, put("Z1", "=1+1"))
	// To which nobody comes, with a formula, a value, and none.
	run(t, c, 1, put("Z2", "=Z1+A1"))
	run(t, c, 0, put("Z2", "5"))
	run(t, c, 0, put("Z2", ""))
	run(t, c, 0, put("Z3", ""))
	// To which many come by steps.
	run(t, c, 3, put("A1", "2"))
	run(t, c, 2, put("A2", "=Z1"))
	run(t, c, 3, put("Z1", "=3"))
	run(t, c, 1, put("B2", "9"))
	run(t, c, 0, put("B3", "9"))
	// What no worth hangs on.
	run(t, c, 0, format(first, 7, rect(0, 0, 9, 9)), rename(first, "x"), format(first, 0, rect(0, 0, 16, 16)), rename(first, "y"))
	run(t, c, 1, format(first, 7, rect(0, 0, 9, 9)), put("B1", "=A1+A2"), rename(first, "x"))
	check(t, "behind all that", c, "A1=2 A2=3 B1=5 B2=9 B3=9 Z1=3 Z2=")
	d := New(c.Book)
	if d.Runs() != 3 {
		t.Errorf("P17.1: %d runs of a new one", d.Runs())
	}
}

// All that a workbook answers is to be had of one whose values are kept.
func TestPromotedMethods(t *testing.T) {
	c := New(nil)
	apply(t, c, append([]api.Op{add(other, "Two"), rename(first, "One"), format(other, 9, rect(1, 1, 2, 3)), add("c2n2", "x"), remove("c2n2")}, puts("B2: =A1+1 | A1: 5 | c1n1!C3: x")...)...)
	if got := fmt.Sprintf("%v %v %s %s %q", c.Sheets(), c.Used(), c.Name(first), c.Name(other), c.Name("c2n2")); got != `[c0n0 c1n1] [c0n0 c1n1 c2n2] One Two ""` {
		t.Errorf("P17.1: sheets: %s", got)
	}
	if got := fmt.Sprint(c.Cells(first), c.Cells(other), c.Formats(first), c.Formats(other), c.Format(at("c1n1!B2")), c.Format(at("B2"))); got != "[{c0n0 0 0} {c0n0 1 1}] [{c1n1 2 2}] [] [{c1n1 1 1} {c1n1 1 2}] 9 0" {
		t.Errorf("P17.1: cells: %s", got)
	}
	if got := show.Cell(c.Cell(at("B2"))) + " " + show.Cell(c.Cell(at("c1n1!C3"))) + show.Cell(c.Cell(at("Z9"))); got != "=A1+1 x" {
		t.Errorf("P17.1: contents: %s", got)
	}
	if c.Stands(remove(other), put("c1n1!A1", "1")) || !c.Stands(remove(other), put("A1", "1")) || c.Name(other) != "Two" {
		t.Error("P17.1: Stands")
	}
	b := c.Copy()
	if !c.Eq(b) || !b.Eq(c.Book) || c.Eq(nil) || c.Eq(sheet.New()) {
		t.Error("P17.1: Copy or Eq")
	}
	b.Apply(put("A1", "6"))
	if c.Eq(b) || worth(c, "A1") != "5" || worth(c, "B2") != "6" {
		t.Error("P17.1: a copy is changed, and so is what it is of")
	}
}

// What a formula sees of a range is in rows, from the top left, blank worths among them, but no blank cells.
func TestRangesAreInRows(t *testing.T) {
	c := New(nil)
	apply(t, c, puts("D1: 9 | C2: 3 | A4: 5 | B3: 4 | B2: 2 | A2: =Z9 | C1: 1 | C4: 7 | B4: =C4-1 | C5: 8 | B1: 0 | B5: =C5")...)
	apply(t, c, puts("B1: | B5:")...)
	e := cells{c}
	for _, x := range []struct {
		r0, c0, r1, c1 int64
		want           string
	}{{0, 0, 3, 2, "1  2 3 4 5 6 7"}, {3, 0, 3, 9, "5 6 7"}, {0, 2, 9, 2, "1 3 7 8"}, {0, 1, 0, 1, ""}, {7, 7, last, last, ""}, {0, 0, last, last, "1 9  2 3 4 5 6 7 8"}} {
		vs, ok := e.Range(first, x.r0, x.c0, x.r1, x.c1)
		var got []string
		for _, v := range vs {
			got = append(got, show.Cell(api.Cell{Value: v}))
		}
		if !ok || strings.Join(got, " ") != x.want {
			t.Errorf("P17.1: the range %v sees %q, %v", x, got, ok)
		}
	}
	if vs, ok := e.Range(other, 0, 0, 9, 9); ok || len(vs) != 0 {
		t.Error("P17.1: a sheet that is not there is seen")
	}
}
