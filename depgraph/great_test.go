package depgraph

import (
	"slices"
	"testing"

	"counterpane/a1"
	"counterpane/api"
	"counterpane/plane"
)

// line is one of all that there are: near the ends, and near the powers of two.
func (d *dice) line() int64 {
	n := int64(1)<<d.roll(42) + int64(d.roll(5)) - 2
	if d.roll(3) == 0 {
		n = last - n
	}
	return min(max(n, 0), last)
}

func (d *dice) ref() api.Ref { return api.Ref{Row: d.line(), Col: d.line()} }

// far is a formula of one reference or range, at a place.
type far struct {
	at   api.At
	ends []api.Ref
}

func (f far) cell() api.Cell {
	e := api.Expr{Kind: api.XRef, Refs: f.ends}
	if len(f.ends) == 2 {
		e.Kind = api.XRange
	}
	return api.Cell{Formula: true, Expr: e}
}

// refers is of two cells of one sheet.
func (f far) refers(to api.At) bool {
	one, two := f.ends[0], f.ends[len(f.ends)-1]
	id := one.Sheet
	if id == "" {
		id = f.at.Sheet
	}
	rows, cols := []int64{one.Row, to.Row, two.Row}, []int64{one.Col, to.Col, two.Col}
	if one.Row > two.Row {
		slices.Reverse(rows)
	}
	if one.Col > two.Col {
		slices.Reverse(cols)
	}
	return id == to.Sheet && slices.IsSorted(rows) && slices.IsSorted(cols)
}

func checkFar(t *testing.T, g *Graph, l []far, more []api.At) {
	t.Helper()
	slices.SortFunc(l, func(a, b far) int { return plane.InOrder(a.at, b.at) })
	ask := func(p api.At) {
		var from, to []api.At
		for _, f := range l {
			if f.at == p {
				for _, o := range l {
					if f.refers(o.at) {
						from = append(from, o.at)
					}
				}
			}
			if f.refers(p) {
				to = append(to, f.at)
			}
		}
		if got := g.From(p); !same(got, from) {
			t.Fatalf("P16.1: From(%s): %s; want %s", name(p), names(got), names(from))
		}
		if got := g.To(p); !same(got, to) {
			t.Fatalf("P16.1: To(%s): %s; want %s", name(p), names(got), names(to))
		}
	}
	for _, f := range l {
		ask(f.at)
		for _, r := range f.ends {
			ask(api.At{Sheet: first, Row: r.Row, Col: r.Col})
		}
	}
	for _, p := range more {
		ask(p)
	}
	checkOrder(t, g, len(l))
}

// checkOrder holds what g says of n formulas against its own From.
func checkOrder(t *testing.T, g *Graph, n int) {
	t.Helper()
	order, cyclic := g.Order(), g.Cyclic()
	if len(order)+len(cyclic) != n {
		t.Fatalf("P16.1: of %d formulas %d are in an order, %d are cyclic", n, len(order), len(cyclic))
	}
	came := map[api.At]bool{}
	for _, p := range order {
		for _, q := range g.From(p) {
			if !came[q] {
				t.Fatalf("P16.1: %s comes ahead of %s", name(p), name(q))
			}
		}
		came[p] = true
	}
	for _, p := range cyclic {
		if came[p] || !slices.ContainsFunc(g.From(p), func(q api.At) bool { return !came[q] }) {
			t.Fatalf("P16.1: %s is cyclic", name(p))
		}
	}
}

// Places and ranges of all sizes.
func TestFarPlaces(t *testing.T) {
	d := dice(41)
	for range 60 {
		g := New(nil)
		var l []far
		for range 60 {
			r := d.ref()
			f := far{at: api.At{Sheet: []string{first, other}[d.roll(2)], Row: r.Row, Col: r.Col}, ends: []api.Ref{d.ref()}}
			if d.roll(2) == 0 {
				f.ends = append(f.ends, d.ref())
			}
			if d.roll(4) == 0 {
				f.ends[0].Sheet = []string{first, other}[d.roll(2)]
			}
			if len(l) > 0 && d.roll(3) == 0 {
				o := l[d.roll(len(l))]
				f.ends[0].Row, f.ends[0].Col = o.at.Row, o.at.Col
			}
			l = slices.DeleteFunc(l, func(o far) bool { return o.at == f.at })
			l = append(l, f)
			g.Set(f.at, f.cell())
			if d.roll(4) == 0 {
				i := d.roll(len(l))
				g.Set(l[i].at, api.Cell{})
				l = slices.Delete(l, i, i+1)
			}
		}
		r := d.ref()
		checkFar(t, g, l, []api.At{{Sheet: first, Row: r.Row, Col: r.Col}, {Sheet: other, Row: r.Col, Col: r.Row}})
	}
}

// fill sets, at the n places that at names, the formulas that it says.
func fill(g *Graph, n int64, at func(i int64) (api.Ref, string)) {
	for i := range n {
		r, s := at(i)
		g.Set(api.At{Sheet: first, Row: r.Row, Col: r.Col}, cell(s))
	}
}

func ref(row, col int64) string { return a1.Print(api.Ref{Row: row, Col: col}) }

// Many formulas: what looks at each for each other would take very long.
func TestManyFormulas(t *testing.T) {
	const n = 40_000
	chain := func(i int64) (api.Ref, string) { return api.Ref{Row: i}, "=" + ref(i+1, 0) + "+1" }
	sums := func(i int64) (api.Ref, string) { return api.Ref{Row: i + 1}, "=SUM(A1:" + ref(i, 0) + ")" }
	across := func(i int64) (api.Ref, string) { return api.Ref{Col: i + 1}, "=SUM(A1:" + ref(0, i) + ")" }
	block := func(i int64) (api.Ref, string) {
		return api.Ref{Row: i / 200, Col: i%200 + 9}, "=SUM($A$1:$C$99,$J$1:$Z$1)"
	}
	for what, c := range map[string]struct {
		at     func(i int64) (api.Ref, string)
		cyclic int
		next   string
	}{"a chain": {chain, 0, ref(n-1, 0)}, "sums down": {sums, 0, "A2"}, "sums across": {across, 0, "B1"}, "the same": {block, n, ""}} {
		g := New(nil)
		fill(g, n, c.at)
		order, cyclic := g.Order(), g.Cyclic()
		if len(order) != n-c.cyclic || len(cyclic) != c.cyclic {
			t.Errorf("P16.1: %s: %d in an order, %d cyclic", what, len(order), len(cyclic))
		}
		if len(order) > 0 && name(order[0]) != c.next {
			t.Errorf("P16.1: %s: first comes %s", what, name(order[0]))
		}
		// One by one they are asked, and set again.
		for i := range int64(1000) {
			r, s := c.at(i * (n / 1000))
			p := api.At{Sheet: first, Row: r.Row, Col: r.Col}
			g.Set(p, cell(s))
			if i%50 == 0 && len(g.From(p))+len(g.To(p)) == 0 {
				t.Errorf("P16.1: %s: %s has neither From nor To", what, name(p))
			}
		}
		if got := g.Order(); !same(got, order) {
			t.Errorf("P16.1: %s: another order behind the same again", what)
		}
	}
}

// A ring that goes through all of many cells.
func TestGreatRing(t *testing.T) {
	const n = 40_000
	g := New(nil)
	fill(g, n, func(i int64) (api.Ref, string) {
		next := (i + 1) % n
		return api.Ref{Row: i % 200, Col: i / 200}, "=" + ref(next%200, next/200)
	})
	if len(g.Cyclic()) != n || len(g.Order()) != 0 {
		t.Error("P16.1: a great ring is none")
	}
	g.Set(at("A1"), cell("1"))
	order := g.Order()
	if len(g.Cyclic()) != 0 || len(order) != n-1 || name(order[0]) != ref(199, 199) || name(order[n-2]) != "A2" {
		t.Error("P16.1: a great ring that is opened is one")
	}
	g.Set(at("A2"), cell("=A2"))
	if got := g.Cyclic(); len(got) != 1 || name(got[0]) != "A2" || len(g.Order()) != n-2 {
		t.Error("P16.1: a ring of one behind a great chain")
	}
}
