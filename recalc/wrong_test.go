package recalc

import (
	"fmt"
	"math"
	"slices"
	"strings"
	"testing"
	"unsafe"

	"counterpane/api"
	"counterpane/op"
	"counterpane/sheet"
)

func TestNil(t *testing.T) {
	var c *Calc
	for range 2 {
		for _, os := range [][]api.Op{nil, {}, {put("A1", "=1")}, {{}, remove(first), add(other, "x")}} {
			if n := c.Apply(os...); n != 0 {
				t.Errorf("P17.1: of a nil Calc %d operations stood", n)
			}
		}
		for _, p := range append(wrongPlaces(), at("A1"), api.At{}) {
			if got := c.Value(p); got != (api.Value{}) {
				t.Errorf("P17.1: of a nil Calc %v is worth %v", p, got)
			}
		}
		if c.Runs() != 0 || c.Clone() != nil {
			t.Error("P17.1: a nil Calc has Runs or a Clone")
		}
	}
	var b *sheet.Book
	if New(b) == nil || New(nil).Book == nil {
		t.Error("P17.1: New of a nil workbook is nil")
	}
}

// One that New did not make has the workbook that it is given, or none.
func TestZeroCalc(t *testing.T) {
	for what, c := range map[string]*Calc{"zero": {}, "its clone": new(Calc).Clone()} {
		if n := c.Apply(put("A1", "=1"), add(other, "x")); n != 0 || c.Runs() != 0 || c.Value(at("A1")) != (api.Value{}) {
			t.Errorf("P17.1: %s: %d operations stood", what, n)
		}
		if got := fmt.Sprintln(c.Sheets(), c.Used(), c.Name(first), c.Cell(at("A1")).Formula, c.Format(at("A1")), c.Cells(first), c.Formats(first), c.Copy(), c.Stands(), c.Eq(nil), c.Eq(sheet.New())); got != "[] []  false 0 [] [] <nil> false true false\n" {
			t.Errorf("P17.1: %s: %s", what, got)
		}
	}
	begin := func() *Calc {
		b := sheet.New()
		b.Apply(puts("A1: 1 | A2: =A1+1 | A3: =A2 | A4: =A4")...)
		return &Calc{Book: b}
	}
	check(t, "asked at first", begin(), "A3=2 A2=2 A4=#CYCLE!")
	c := begin()
	apply(t, c, put("A1", "5"))
	check(t, "told at first", c, "A3=6 A2=6 A4=#CYCLE!")
	c = begin()
	d := c.Clone()
	apply(t, c, put("A1", "5"), put("A4", ""))
	check(t, "cloned at first", d, "A3=2 A2=2 A4=#CYCLE!")
	check(t, "of which a clone is", c, "A3=6 A2=6 A4=")
}

// wrongPlaces are no sheet's.
func wrongPlaces() []api.At {
	var out []api.At
	for _, id := range []string{first, other, "c9n9"} {
		for _, n := range []int64{-1, -1 << 41, last + 1, last + 2, 1 << 60, math.MaxInt64, math.MinInt64} {
			out = append(out, api.At{Sheet: id, Row: n}, api.At{Sheet: id, Col: n}, api.At{Sheet: id, Row: n, Col: n}, api.At{Sheet: id, Row: n, Col: 1})
		}
	}
	for _, id := range []string{"", "Sheet", "c0n0 ", "C0n0", "c00n0", "c16n0", "c0n1000000", "c0n0!", "\xff", "c-1n0", strings.Repeat("c", 100_000)} {
		out = append(out, api.At{Sheet: id}, api.At{Sheet: id, Row: 1, Col: 1}, api.At{Sheet: id, Row: -1, Col: last + 1})
	}
	return out
}

// sample is a workbook of two sheets, with rings and errors.
func sample(t *testing.T) *Calc {
	c := New(nil)
	apply(t, c, append([]api.Op{add(other, "Two"), format(first, 3, rect(0, 0, 2, 2))},
		puts("A1: 2 | A2: =A1*c1n1!B2 | A3: =SUM(A1:A2) | A4: =A5 | A5: =A4 | A6: =1/0 | A7: =c9n9!A1 | A8: ab | A9: =A8&A3 | c1n1!B2: 5 | c1n1!C3: =c0n0!A3&A1")...)...)
	return c
}

const sampled = "A1=2 A2=10 A3=12 A4=#CYCLE! A5=#CYCLE! A6=#DIV/0! A7=#REF! A8=ab A9=ab12 c1n1!B2=5 c1n1!C3='12"

// says is all that c says.
func says(c *Calc) string {
	var out strings.Builder
	fmt.Fprintln(&out, c.Sheets(), c.Used(), c.Runs())
	for _, id := range c.Sheets() {
		fmt.Fprintln(&out, c.Name(id), c.Formats(id))
		for _, p := range c.Cells(id) {
			fmt.Fprintln(&out, p, c.Cell(p), c.Value(p))
		}
	}
	return out.String()
}

func TestPlacesThatNoSheetHas(t *testing.T) {
	c := sample(t)
	before := says(c)
	for _, p := range wrongPlaces() {
		for _, s := range []string{"=A1", "=c1n1!A1+A2", "5", ""} {
			if n := c.Apply(api.Op{Kind: api.OSet, Sheet: p.Sheet, Row: p.Row, Col: p.Col, Cell: cell(s)}); n != 0 {
				t.Errorf("P17.1: %.40v: %d operations stood", p, n)
			}
		}
		if got := c.Value(p); got != (api.Value{}) {
			t.Errorf("P17.1: %.40v is worth %v", p, got)
		}
	}
	check(t, "behind places that no sheet has", c, sampled)
	if got := says(c); got != before {
		t.Errorf("P17.1: %s; want %s", got, before)
	}
}

// nest is e within n calls of wrap.
func nest(n int, e api.Expr, wrap func(api.Expr) api.Expr) api.Expr {
	for range n {
		e = wrap(e)
	}
	return e
}

func neg(e api.Expr) api.Expr { return api.Expr{Kind: api.XNeg, Kids: []api.Expr{e}} }

func double(e api.Expr) api.Expr {
	return api.Expr{Kind: api.XBin, Text: "+", Kids: []api.Expr{e, e}}
}

// looped is a tree that is its own kid.
func looped() api.Expr {
	kids := []api.Expr{{Kind: api.XRef, Refs: []api.Ref{{}}}, {Kind: api.XBin, Text: "+"}}
	kids[1].Kids = kids
	return kids[1]
}

// wrongOps may not be.
func wrongOps() []api.Op {
	a1 := api.Expr{Kind: api.XRef, Refs: []api.Ref{{}}}
	out := []api.Op{
		{}, {Kind: -1, Sheet: first}, {Kind: 8, Sheet: first}, {Kind: math.MaxInt, Sheet: first}, {Kind: api.OSet}, {Kind: api.OSet, Sheet: first, Name: "x"}, {Kind: api.OSet, Sheet: first, Format: 1},
		rows(first, api.Line{}), rows(first, ins(-1)), cols(first, del(last+1)), cols(first, move(1, 1)), rows(first, move(2, last+3)), rows(first, api.Line{Kind: 4}), {Kind: api.ORow, Sheet: first, Line: ins(0), Row: 1},
		format(first, 1), format(first, 256, rect(0, 0, 1, 1)), format(first, -1, rect(0, 0, 1, 1)), format(first, 1, rect(0, 0, 17, 16)), format(first, 1, rect(1, 1, 1, 1)), format(first, 1, rect(0, 0, 1, 1), rect(0, 0, 1, 1)),
		add("c2n2", ""), add("c2n2", strings.Repeat("x", 21)), add("c16n2", "x"), add("", "x"), rename(first, ""), rename(first, "\n"), rename(first, strings.Repeat("x", 100_000)), remove(""), remove("x"), {Kind: api.ORemove, Sheet: first, Name: "x"},
	}
	for _, c := range []api.Cell{
		{Expr: a1}, {Formula: true, Expr: a1, Value: api.Value{Kind: api.VNumber}}, {Formula: true}, {Value: api.Value{Kind: 5}}, {Value: api.Value{Num: 1}}, {Value: api.Value{Kind: api.VError, Err: 8}}, {Value: api.Value{Kind: api.VText, Text: "\xff"}}, {Value: api.Value{Kind: api.VText, Text: strings.Repeat("x", 201)}},
	} {
		out = append(out, api.Op{Kind: api.OSet, Sheet: first, Cell: c})
	}
	for _, e := range []api.Expr{
		looped(), neg(looped()), nest(50, a1, neg), nest(100_000, a1, neg), nest(8, a1, double), nest(1000, a1, double), {Kind: api.XRef}, {Kind: api.XRange, Refs: a1.Refs}, {Kind: api.XRef, Refs: []api.Ref{{Row: -1}}}, {Kind: api.XRef, Refs: []api.Ref{{Row: last + 1}}}, {Kind: api.XRef, Refs: []api.Ref{{Sheet: "x"}}},
		{Kind: api.XCall, Text: "SUM", Kids: slices.Repeat([]api.Expr{a1}, 31)}, {Kind: api.XCall, Text: "SUM", Kids: slices.Repeat([]api.Expr{a1}, 100_000)}, {Kind: api.XNum, Num: -1}, {Kind: 10},
	} {
		out = append(out, api.Op{Kind: api.OSet, Sheet: first, Row: 1, Cell: api.Cell{Formula: true, Expr: e}})
	}
	return out
}

// What may not be does nothing, also among what may.
func TestOperationsThatMayNotBe(t *testing.T) {
	c := sample(t)
	before := says(c)
	wrong := wrongOps()
	for i, o := range wrong {
		if op.May(o) {
			t.Fatalf("the test's own operation %d may be", i)
		}
		if n := c.Apply(o); n != 0 {
			t.Errorf("P17.1: the wrong operation %d stood", i)
		}
	}
	if n := c.Apply(wrong...); n != 0 || says(c) != before {
		t.Errorf("P17.1: %d wrong operations stood: %s; want %s", n, says(c), before)
	}
	check(t, "behind operations that may not be", c, sampled)
	for i, o := range wrong {
		if n := c.Apply(o, put("A1", "3"), o, put("A1", "2"), o); n != 2 {
			t.Errorf("P17.1: beside the wrong operation %d stood %d", i, n)
		}
	}
	if n := c.Apply(append(wrongOps(), put("A1", "3"))...); n != 1 {
		t.Errorf("P17.1: beside all wrong operations stood %d", n)
	}
	check(t, "beside operations that may not be", c, "A1=3 A2=15 A3=18 A9=ab18 c1n1!C3='18 A4=#CYCLE! A7=#REF!")
}

// A tree that is as deep or as great as may be is worth something.
func TestTreesThatJustMayBe(t *testing.T) {
	c := New(nil)
	a1 := api.Expr{Kind: api.XRef, Refs: []api.Ref{{}}}
	for i, e := range []api.Expr{nest(49, a1, neg), nest(6, a1, double), {Kind: api.XCall, Text: "SUM", Kids: slices.Repeat([]api.Expr{nest(5, a1, neg)}, 30)}} {
		apply(t, c, api.Op{Kind: api.OSet, Sheet: first, Row: 1, Col: int64(i), Cell: api.Cell{Formula: true, Expr: e}})
	}
	check(t, "of a blank", c, "A2=0 B2=0 C2=0")
	run(t, c, 3, put("A1", "2"))
	check(t, "of a number", c, "A2=-2 B2=128 C2=-60")
}

func TestTheWorkbookIsCopied(t *testing.T) {
	b := sample(t).Copy()
	c := New(b)
	check(t, "of a workbook", c, sampled)
	b.Apply(put("A1", "9"), put("A8", "=A1"), remove(other), rows(first, ins(0)), rename(first, "x"))
	check(t, "of a workbook that was changed", c, sampled)
	if c.Name(first) != "Sheet" || len(c.Sheets()) != 2 {
		t.Error("P17.1: the workbook that New was given is kept")
	}
	before := told(b)
	apply(t, c, put("A1", "4"), put("B1", "x"))
	check(t, "changed", c, "A1=4 A2=20 A3=24 B1=x")
	if told(b) != before {
		t.Error("P17.1: the workbook that New was given is changed")
	}
}

func TestClones(t *testing.T) {
	c := sample(t)
	runs := c.Runs()
	d := c.Clone()
	if d.Runs() != runs || !d.Eq(c.Book) || d.Book == c.Book {
		t.Error("P17.1: a clone is not the same, or none of its own")
	}
	check(t, "a clone", d, sampled)
	run(t, c, 4, put("A1", "3"))
	check(t, "of which a clone is", c, "A1=3 A2=15 A3=18 A9=ab18 c1n1!C3='18")
	check(t, "a clone of what was changed", d, sampled)
	if d.Runs() != runs {
		t.Errorf("P17.1: a clone has the Runs of what it was cloned from")
	}
	run(t, d, 2, put("A4", "=A1"))
	run(t, d, 4, put("A8", "xy"), put("c1n1!B2", ""), rename(other, "x"))
	check(t, "a clone that was changed", d, "A1=2 A2=0 A3=2 A4=2 A5=2 A8=xy A9=xy2 c1n1!B2= c1n1!C3='2")
	check(t, "of which a clone was changed", c, "A1=3 A2=15 A3=18 A4=#CYCLE! A5=#CYCLE! A8=ab A9=ab18 c1n1!B2=5 c1n1!C3='18")
	e := d.Clone().Clone()
	apply(t, d, rows(first, del(0)), remove(other))
	check(t, "a clone of a clone", e, "A1=2 A2=0 A3=2 A4=2 A9=xy2 c1n1!C3='2")
	run(t, e, 1, put("A5", "=A4+1"))
	check(t, "a clone of a clone", e, "A5=3")
	if c.Name(other) != "Two" || e.Name(other) != "x" || d.Name(other) != "" {
		t.Error("P17.1: clones have sheets in common")
	}
}

func shares(a, b string) bool { return a != "" && unsafe.StringData(a) == unsafe.StringData(b) }

// Who changes what he handed in, behind the call, changes nothing; nor does a call change it.
func TestArgumentsAreNotKept(t *testing.T) {
	c := New(nil)
	id, to, text := strings.Clone(first), strings.Clone(other), strings.Clone("a text")
	refs := make([]api.Ref, 2, 9)
	refs[0], refs[1] = api.Ref{Sheet: to, Row: 1}, api.Ref{Row: 3, Col: 1}
	kids := make([]api.Expr, 1, 9)
	kids[0] = api.Expr{Kind: api.XRange, Refs: refs}
	os := make([]api.Op, 4, 9)
	os[0] = add(to, "x")
	os[1] = api.Op{Kind: api.OSet, Sheet: id, Cell: api.Cell{Formula: true, Expr: api.Expr{Kind: api.XCall, Text: "SUM", Kids: kids}}}
	os[2] = api.Op{Kind: api.OSet, Sheet: to, Row: 2, Cell: cell("7")}
	os[3] = api.Op{Kind: api.OSet, Sheet: id, Row: 5, Cell: api.Cell{Value: api.Value{Kind: api.VText, Text: text}}}
	before := fmt.Sprint(os[:9], refs[:9], kids[:9])
	apply(t, c, os...)
	if got := fmt.Sprint(os[:9], refs[:9], kids[:9]); got != before {
		t.Errorf("P0.3: Apply makes %s of %s", got, before)
	}
	for range 2 {
		for p := range c.worths {
			if shares(p.Sheet, id) || shares(p.Sheet, to) {
				t.Error("P0.3: the text of an argument's sheet is kept")
			}
		}
		for id := range c.filled {
			if shares(id, os[1].Sheet) || shares(id, to) {
				t.Error("P0.3: the text of an argument's sheet is kept")
			}
		}
		if shares(c.worths[at("A6")].Text, text) {
			t.Error("P0.3: the text of an argument's value is kept")
		}
		apply(t, c, os[1:]...)
		apply(t, c, os[1], os[2])
	}
	refs[0], refs[1], kids[0], os[2] = api.Ref{Sheet: "x", Row: -1}, api.Ref{Row: 9}, api.Expr{}, api.Op{}
	check(t, "behind a change of arguments", c, "A1=7")
	if got := worth(c, "A6"); got != "a text" {
		t.Errorf("P0.3: behind a change of arguments A6 is worth %s", got)
	}
	run(t, c, 1, put("c1n1!B4", "3"))
	check(t, "behind a change of arguments", c, "A1=10 c1n1!A3=7 c1n1!B4=3")
}

// Who writes into answers changes nothing.
func TestAnswersAreNew(t *testing.T) {
	c := sample(t)
	before := says(c)
	for range 2 {
		for _, id := range c.Sheets() {
			for _, l := range [][]api.At{c.Cells(id), c.Formats(id)} {
				room := l[:cap(l)]
				for i := range room {
					room[i] = api.At{Sheet: "x", Row: -1, Col: -1}
				}
			}
			for _, p := range c.Cells(id) {
				e := c.Cell(p).Expr
				for i := range e.Refs {
					e.Refs[i] = api.Ref{Row: 77}
				}
				for i := range e.Kids {
					e.Kids[i] = api.Expr{}
				}
			}
		}
		for _, l := range [][]string{c.Sheets(), c.Used()} {
			for i := range l {
				l[i] = "x"
			}
		}
		c.Copy().Apply(put("A1", "77"), remove(other))
		c.Clone().Apply(put("A1", "77"), remove(other))
		if got := says(c); got != before {
			t.Fatalf("P0.3: who writes into answers makes %s of %s", got, before)
		}
	}
	apply(t, c, put("A1", "2"))
	check(t, "behind answers that were changed", c, sampled)
}

func TestTextsAreNew(t *testing.T) {
	c := sample(t)
	d := c.Clone()
	for _, s := range []string{"A8", "A9", "c1n1!C3"} {
		texts := []string{c.Value(at(s)).Text, c.Value(at(s)).Text, d.Value(at(s)).Text, c.Cell(at(s)).Value.Text, c.worths[at(s)].Text, c.Copy().Cell(at(s)).Value.Text}
		for i, a := range texts {
			for _, b := range texts[:i] {
				if shares(a, b) {
					t.Errorf("P0.3: %s: two answers share the text %s", s, a)
				}
			}
		}
	}
}

// What is answered hangs on no order in which maps are gone through.
func TestTheSameEachTime(t *testing.T) {
	d := dice(7)
	var os []api.Op
	for range 300 {
		os = append(os, d.op(7))
	}
	c := New(nil)
	c.Apply(os...)
	for range 20 {
		again := New(nil)
		again.Apply(os...)
		if says(again) != says(c) {
			t.Fatalf("P0.5: %s, and another time %s", says(c), says(again))
		}
	}
}

// Asking changes nothing, and evaluates nothing.
func TestAskingChangesNothing(t *testing.T) {
	c := sample(t)
	before := says(c)
	for _, p := range append(wrongPlaces(), all(9)...) {
		c.Value(p)
		c.Cell(p)
		c.Format(p)
	}
	c.Stands(put("A1", "9"), remove(first))
	c.Copy()
	c.Clone()
	c.Eq(nil)
	if got := says(c); got != before {
		t.Errorf("P17.1: asking makes %s of %s", got, before)
	}
}
