package depgraph

import (
	"fmt"
	"maps"
	"math"
	"slices"
	"strings"
	"testing"
	"unsafe"

	"counterpane/api"
	"counterpane/op"
	"counterpane/plane"
	"counterpane/sheet"
	"counterpane/show"
)

func TestNil(t *testing.T) {
	var g *Graph
	g.Set(at("A1"), cell("=A1"))
	g.Set(at("A1"), api.Cell{})
	g.Set(api.At{}, api.Cell{Formula: true})
	check(t, "a nil graph", g, "From A1:", "To A1:", "Cyclic:", "Order:")
	if New(nil) == nil || New(sheet.New()) == nil {
		t.Error("P16.1: New is nil")
	}
	var b *sheet.Book
	check(t, "a nil workbook", New(b), "From A1:", "To A1:", "Cyclic:", "Order:")
}

// A graph that New did not make, and one of a workbook that New did not make, have no formulas.
func TestZeroGraph(t *testing.T) {
	for what, g := range map[string]*Graph{"a zero graph": {}, "of a zero workbook": New(new(sheet.Book)), "of nil": New(nil)} {
		check(t, what, g, "From A1:", "To A1:", "Cyclic:", "Order:")
		g.Set(at("A1"), api.Cell{})
		g.Set(at("B1"), cell("=A1"))
		g.Set(at("A1"), cell("=1"))
		check(t, what, g, "From B1: A1", "To A1: B1", "Cyclic:", "Order: A1 B1")
	}
}

// Graphs have nothing in common.
func TestGraphsOfTheirOwn(t *testing.T) {
	b := contents{"A1": "=B1", "B1": "=1"}.book()
	g, o := New(b), New(b)
	g.Set(at("B1"), cell("=A1"))
	check(t, "another graph", o, "From B1:", "To A1:", "Cyclic:", "Order: B1 A1")
	check(t, "the graph", g, "From B1: A1", "Cyclic: A1 B1", "Order:")
	check(t, "a new graph", New(b), "Cyclic:", "Order: B1 A1")
	if show.Cell(b.Cell(at("B1"))) != "=1" {
		t.Error("P16.1: Set changes the workbook")
	}
	check(t, "a graph of nothing", New(nil), "Order:")
}

func sample() contents {
	return contents{"A1": "=B1", "B1": "=SUM(C1:C9)", "C2": "=c1n1!B2", "c1n1!B2": "=1", "D1": "=D2", "D2": "=D1:A9", "E1": "7"}
}

var asked = []string{"From A1: B1", "From B1: C2", "From C2: c1n1!B2", "From c1n1!B2:", "From D1: D2", "From D2: A1 B1 D1 C2 D2",
	"To A1: D2", "To B1: A1 D2", "To C1: B1 D2", "To c1n1!B2: C2", "To E1:", "Cyclic: D1 D2", "Order: c1n1!B2 C2 B1 A1"}

// wrongPlaces are no sheet's.
func wrongPlaces() []api.At {
	var out []api.At
	for _, id := range []string{first, other, "c9n9"} {
		for _, n := range []int64{-1, -1 << 41, last + 1, last + 2, 1 << 60, math.MaxInt64, math.MinInt64} {
			out = append(out, api.At{Sheet: id, Row: n}, api.At{Sheet: id, Col: n}, api.At{Sheet: id, Row: n, Col: n}, api.At{Sheet: id, Row: n, Col: 1})
		}
	}
	for _, id := range []string{"", "Sheet", "c0n0 ", "C0n0", "c00n0", "c16n0", "c0n1000000", "c0n0!", "\xff", "c-1n0", strings.Repeat("c", 100_000)} {
		out = append(out, api.At{Sheet: id}, api.At{Sheet: id, Row: 1, Col: 1}, api.At{Sheet: id, Row: -1, Col: last + 1})
	}
	return out
}

func TestPlacesThatNoSheetHas(t *testing.T) {
	for what, g := range sample().ways() {
		for _, p := range wrongPlaces() {
			for _, s := range []string{"=A1", "=D1+c1n1!B2+c9n9!A1", "=SUM(A1:Z99)", "1", ""} {
				g.Set(p, cell(s))
			}
			if from, to := g.From(p), g.To(p); len(from)+len(to) != 0 {
				t.Errorf("P16.1: %s: %.40v: From %s, To %s", what, p, names(from), names(to))
			}
		}
		check(t, what, g, asked...)
	}
}

// A place that a sheet has, but on which nothing was set, is there all the same.
func TestPlacesWithNothing(t *testing.T) {
	for what, g := range sample().ways() {
		check(t, what, g, "From Z99:", "To Z99:", "From c9n9!A1:", "To c9n9!A1:", "From c15n999999!A1:", "From E1:", "From C9:", "To C9: B1 D2")
	}
}

func number(n api.Fix) api.Expr { return api.Expr{Kind: api.XNum, Num: n * 10000} }

// nest is e within n calls of wrap.
func nest(n int, e api.Expr, wrap func(api.Expr) api.Expr) api.Expr {
	for range n {
		e = wrap(e)
	}
	return e
}

func neg(e api.Expr) api.Expr { return api.Expr{Kind: api.XNeg, Kids: []api.Expr{e}} }

func double(e api.Expr) api.Expr {
	return api.Expr{Kind: api.XBin, Text: "+", Kids: []api.Expr{e, e}}
}

// looped is a tree that is its own kid.
func looped() api.Expr {
	kids := []api.Expr{{Kind: api.XRef, Refs: []api.Ref{{}}}, {Kind: api.XBin, Text: "+"}}
	kids[1].Kids = kids
	return kids[1]
}

func wrongTrees() []api.Expr {
	a1 := api.Expr{Kind: api.XRef, Refs: []api.Ref{{}}}
	refs := func(kind int, rs ...api.Ref) api.Expr { return api.Expr{Kind: kind, Refs: rs} }
	sum := func(n int, kid api.Expr) api.Expr {
		return api.Expr{Kind: api.XCall, Text: "SUM", Kids: slices.Repeat([]api.Expr{kid}, n)}
	}
	return []api.Expr{
		{}, {Kind: -1}, {Kind: 10}, {Kind: math.MaxInt}, {Kind: math.MinInt, Refs: a1.Refs},
		refs(api.XRef), refs(api.XRange), refs(api.XRange, api.Ref{}), refs(api.XRef, api.Ref{}, api.Ref{}), refs(api.XRange, api.Ref{}, api.Ref{}, api.Ref{}), refs(api.XNum, api.Ref{}), refs(0, api.Ref{}),
		refs(api.XRange, api.Ref{}, api.Ref{Sheet: first}), refs(api.XRange, api.Ref{Sheet: other}, api.Ref{Sheet: other}),
		refs(api.XRef, api.Ref{Row: -1}), refs(api.XRef, api.Ref{Col: -1}), refs(api.XRef, api.Ref{Row: last + 1}), refs(api.XRef, api.Ref{Col: last + 1}), refs(api.XRef, api.Ref{Sheet: "x"}), refs(api.XRef, api.Ref{Sheet: "c16n0"}),
		refs(api.XRange, api.Ref{Row: -1}, api.Ref{}), refs(api.XRange, api.Ref{}, api.Ref{Col: math.MaxInt64}), refs(api.XRange, api.Ref{Row: math.MinInt64}, api.Ref{Row: math.MaxInt64}),
		{Kind: api.XRef, Refs: a1.Refs, Kids: []api.Expr{a1}}, {Kind: api.XRef, Refs: a1.Refs, Num: 1}, {Kind: api.XNeg, Refs: a1.Refs, Kids: []api.Expr{a1}},
		{Kind: api.XNum, Num: -1}, {Kind: api.XNeg}, {Kind: api.XBin, Text: "+", Kids: []api.Expr{a1}}, {Kind: api.XBin, Text: "!", Kids: []api.Expr{a1, a1}}, {Kind: api.XCall, Text: "sum", Kids: []api.Expr{a1}},
		sum(31, a1), sum(100_000, a1), nest(50, a1, neg), nest(100_000, a1, neg), nest(8, a1, double), nest(1000, a1, double), looped(), neg(looped()), {Kind: api.XText, Text: strings.Repeat("x", 201)},
	}
}

func wrongCells() []api.Cell {
	a1 := cell("=A1")
	out := []api.Cell{
		{Expr: a1.Expr}, {Expr: number(1)}, {Formula: true, Expr: a1.Expr, Value: api.Value{Kind: api.VNumber}}, {Formula: true, Expr: a1.Expr, Value: api.Value{Bool: true}}, {Value: api.Value{Kind: api.VText, Text: "x"}, Expr: a1.Expr},
		{Value: api.Value{Kind: -1}}, {Value: api.Value{Kind: 5}}, {Value: api.Value{Num: 1}}, {Value: api.Value{Kind: api.VError}}, {Value: api.Value{Kind: api.VError, Err: 8}},
		{Value: api.Value{Kind: api.VText, Text: "\xff"}}, {Value: api.Value{Kind: api.VText, Text: strings.Repeat("x", 201)}}, {Value: api.Value{Kind: api.VNumber, Text: "x"}},
	}
	for _, e := range wrongTrees() {
		out = append(out, api.Cell{Formula: true, Expr: e})
	}
	return out
}

// What may not be is no content: that which was there stays.
func TestCellsThatMayNotBe(t *testing.T) {
	for i, c := range wrongCells() {
		if op.May(api.Op{Kind: api.OSet, Sheet: first, Cell: c}) {
			t.Fatalf("the test's own cell %d may be", i)
		}
	}
	for what, g := range sample().ways() {
		for _, c := range wrongCells() {
			for _, s := range []string{"A1", "B1", "E1", "Z1", "D2", "c1n1!B2", "c9n9!A1"} {
				g.Set(at(s), c)
			}
			g.Set(api.At{Sheet: "x", Row: -1}, c)
		}
		check(t, what, g, asked...)
		check(t, what, g, "From Z1:", "To Z1:", "From E1:", "To E1:", "To c9n9!A1:")
		g.Set(at("A1"), cell("=Z1"))
		check(t, what, g, "From A1:", "To Z1: A1", "To B1: D2", "Order: A1 c1n1!B2 C2 B1")
	}
}

// Trees that are as great and as deep as may be are none of these.
func TestTreesThatJustMayBe(t *testing.T) {
	a1 := api.Expr{Kind: api.XRef, Refs: []api.Ref{{}}}
	deep := nest(49, a1, neg)
	shared := nest(6, a1, double)
	empty := api.Expr{Kind: api.XRef, Refs: []api.Ref{{}}, Kids: []api.Expr{}}
	for i, e := range []api.Expr{deep, shared, empty} {
		g := New(nil)
		g.Set(at("B1"), api.Cell{Formula: true, Expr: e})
		check(t, fmt.Sprint("tree ", i), g, "To A1: B1", "From B1:", "Order: B1")
	}
}

// says is all that g says of some places.
func says(g *Graph, ps []api.At) string {
	var out strings.Builder
	for _, p := range ps {
		fmt.Fprintln(&out, p, g.From(p), g.To(p))
	}
	fmt.Fprintln(&out, g.Cyclic(), g.Order())
	return out.String()
}

// Who changes what he handed in, behind the call, changes nothing; nor does a call change it.
func TestArgumentsAreNotKept(t *testing.T) {
	g := New(nil)
	refs := make([]api.Ref, 2, 9)
	refs[0], refs[1] = api.Ref{Sheet: other, Row: 1}, api.Ref{Row: 3, Col: 1}
	kids := make([]api.Expr, 1, 9)
	kids[0] = api.Expr{Kind: api.XRange, Refs: refs}
	c := api.Cell{Formula: true, Expr: api.Expr{Kind: api.XCall, Text: "SUM", Kids: kids}}
	before := fmt.Sprint(c, refs[:9], kids[:9])
	g.Set(at("A1"), c)
	if got := fmt.Sprint(c, refs[:9], kids[:9]); got != before {
		t.Errorf("P0.3: Set makes %s of %s", got, before)
	}
	refs[0], refs[1], kids[0] = api.Ref{Sheet: "x", Row: -1}, api.Ref{Row: 9}, api.Expr{}
	g.Set(at("c1n1!B4"), cell("=1"))
	check(t, "behind a change", g, "From A1: c1n1!B4", "To c1n1!A2: A1", "To c1n1!B4: A1", "To c1n1!B5:", "Order: c1n1!B4 A1")
}

func TestAnswersAreNew(t *testing.T) {
	places := all(3)
	for what, g := range sample().ways() {
		before := says(g, places)
		for range 2 {
			for _, p := range places {
				for _, l := range [][]api.At{g.From(p), g.To(p), g.Cyclic(), g.Order()} {
					room := l[:cap(l)]
					for i := range room {
						room[i] = api.At{Sheet: "x", Row: -1, Col: -1}
					}
				}
			}
			if got := says(g, places); got != before {
				t.Fatalf("P0.3: %s: who writes into answers makes %s of %s", what, got, before)
			}
		}
		one, two := g.Order(), g.Order()
		one[0].Row = 77
		if two[0].Row == 77 {
			t.Errorf("P0.3: %s: two answers share memory", what)
		}
	}
}

func shares(a, b string) bool { return a != "" && unsafe.StringData(a) == unsafe.StringData(b) }

func TestTextsAreNew(t *testing.T) {
	id, to := strings.Clone(first), strings.Clone(other)
	p, q := api.At{Sheet: id}, api.At{Sheet: to}
	g := New(nil)
	g.Set(p, api.Cell{Formula: true, Expr: api.Expr{Kind: api.XRef, Refs: []api.Ref{{Sheet: to}}}})
	g.Set(q, cell("=c0n0!A1"))
	var kept []string
	for at, bs := range g.formulas {
		kept = append(kept, at.Sheet)
		for _, b := range bs {
			kept = append(kept, b.Sheet)
		}
	}
	for id, c := range g.crowds {
		c.Within([]plane.Box{plane.Between(id, 0, 0, last, last)}, func(part *plane.Crowd) {
			part.Each(func(at api.At) { kept = append(kept, id, at.Sheet) })
		})
	}
	for _, blocks := range g.index {
		for block, from := range blocks {
			kept = append(kept, block.Sheet)
			for at := range maps.Keys(from) {
				kept = append(kept, at.Sheet)
			}
		}
	}
	var answered []string
	for _, l := range [][]api.At{g.From(p), g.From(p), g.To(p), g.From(q), g.To(q), g.Cyclic(), g.Cyclic()} {
		for _, at := range l {
			answered = append(answered, at.Sheet)
		}
	}
	g.Set(p, cell("=1"))
	for _, l := range [][]api.At{g.Order(), g.Order()} {
		for _, at := range l {
			answered = append(answered, at.Sheet)
		}
	}
	for i, s := range answered {
		if shares(s, id) || shares(s, to) || slices.ContainsFunc(kept, func(k string) bool { return shares(s, k) }) || slices.ContainsFunc(answered[:i], func(o string) bool { return shares(s, o) }) {
			t.Errorf("P0.3: the text %d of answers is shared", i)
		}
	}
	for _, s := range kept {
		if shares(s, id) || shares(s, to) {
			t.Errorf("P0.3: %s is kept", s)
		}
	}
}

// What is answered hangs on no order in which maps are gone through.
func TestTheSameEachTime(t *testing.T) {
	d := dice(7)
	g, o := New(nil), New(nil)
	for range 60 {
		p, c := d.place(6), cell(d.formula(6, 2))
		g.Set(p, c)
		o.Set(p, c)
	}
	before := says(g, all(6))
	for range 20 {
		if got := says(g, all(6)); got != before {
			t.Fatalf("P0.5: %s, and another time %s", before, got)
		}
	}
	if got := says(o, all(6)); got != before {
		t.Errorf("P0.5: of another graph that was told the same: %s; want %s", got, before)
	}
}

// Asking changes nothing.
func TestAskingChangesNothing(t *testing.T) {
	for what, g := range sample().ways() {
		for _, p := range append(wrongPlaces(), all(4)...) {
			g.From(p)
			g.To(p)
		}
		g.Cyclic()
		g.Order()
		if !alike(g, New(sample().book())) {
			t.Errorf("P16.1: %s: asking changes what is kept", what)
		}
	}
}
