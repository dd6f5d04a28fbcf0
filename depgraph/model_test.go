package depgraph

import (
	"fmt"
	"maps"
	"reflect"
	"regexp"
	"slices"
	"strings"
	"testing"

	"counterpane/a1"
	"counterpane/api"
	"counterpane/sheet"
	"counterpane/show"
)

// model is a graph another way: formulas as texts, in which names of cells are looked for, ranges taken cell by cell, and
// ways from cell to cell all found ahead.
type model map[api.At]string

var (
	quoted = regexp.MustCompile(`"[^"]*"`)
	ranges = regexp.MustCompile(`(?:(c[0-9]+n[0-9]+)!)?\$?([A-Z]+)\$?([0-9]+)(?::\$?([A-Z]+)\$?([0-9]+))?`)
)

// modelOf is of the texts of all cells of b.
func modelOf(b *sheet.Book) model {
	m := model{}
	for _, id := range b.Sheets() {
		for _, p := range b.Cells(id) {
			m.set(p, show.Cell(b.Cell(p)))
		}
	}
	return m
}

func (m model) set(p api.At, text string) {
	delete(m, p)
	if strings.HasPrefix(text, "=") {
		m[p] = text
	}
}

// sorted is the formulas' places, by what a place is named if its numbers have zeros ahead.
func (m model) sorted() []api.At {
	named := map[string]api.At{}
	for p := range m {
		named[fmt.Sprintf("%s!%020d!%020d", p.Sheet, p.Row, p.Col)] = p
	}
	var out []api.At
	for _, s := range slices.Sorted(maps.Keys(named)) {
		out = append(out, named[s])
	}
	return out
}

// cells is all cells to which the formula at p refers.
func (m model) cells(p api.At) map[api.At]bool {
	out := map[api.At]bool{}
	for _, found := range ranges.FindAllStringSubmatch(quoted.ReplaceAllString(m[p], ""), -1) {
		id := found[1]
		if id == "" {
			id = p.Sheet
		}
		one, _ := a1.Parse(found[2] + found[3])
		two := one
		if found[4] != "" {
			two, _ = a1.Parse(found[4] + found[5])
		}
		if max(one.Row, one.Col, two.Row, two.Col) > 100 {
			panic("the test's own formula " + m[p] + " reaches too far")
		}
		for row := min(one.Row, two.Row); row <= max(one.Row, two.Row); row++ {
			for col := min(one.Col, two.Col); col <= max(one.Col, two.Col); col++ {
				out[api.At{Sheet: id, Row: row, Col: col}] = true
			}
		}
	}
	return out
}

// reach says from which formula to which others one comes by steps of From.
func (m model) reach(all []api.At) [][]bool {
	out := make([][]bool, len(all))
	for i, p := range all {
		cells := m.cells(p)
		for _, q := range all {
			out[i] = append(out[i], cells[q])
		}
	}
	for mid := range all {
		for i := range all {
			for j := range all {
				out[i][j] = out[i][j] || out[i][mid] && out[mid][j]
			}
		}
	}
	return out
}

// cyclicAndOrder takes again and again the first of those that are left that reaches none that is left.
func (m model) cyclicAndOrder() (cyclic, order []api.At) {
	all := m.sorted()
	reach := m.reach(all)
	left := map[int]bool{}
	for i, p := range all {
		ring := false
		for j := range all {
			ring = ring || reach[j][j] && (i == j || reach[i][j])
		}
		if ring {
			cyclic = append(cyclic, p)
		} else {
			left[i] = true
		}
	}
	for len(left) > 0 {
		for i, p := range all {
			if left[i] && !slices.ContainsFunc(slices.Collect(maps.Keys(left)), func(j int) bool { return reach[i][j] }) {
				order = append(order, p)
				delete(left, i)
				break
			}
		}
	}
	return cyclic, order
}

func same(a, b []api.At) bool { return slices.Equal(a, b) }

// hold holds g against m: of each of the places asked, of Cyclic, and of Order.
func hold(t *testing.T, g *Graph, m model, asked []api.At) {
	t.Helper()
	all := m.sorted()
	from, to := map[api.At][]api.At{}, map[api.At][]api.At{}
	for _, p := range all {
		cells := m.cells(p)
		for _, q := range all {
			if cells[q] {
				from[p] = append(from[p], q)
			}
		}
		for q := range cells {
			to[q] = append(to[q], p)
		}
	}
	for _, p := range asked {
		if got := g.From(p); !same(got, from[p]) {
			t.Fatalf("P16.1: %v: From(%s): %s; want %s", m, name(p), names(got), names(from[p]))
		}
		if got := g.To(p); !same(got, to[p]) {
			t.Fatalf("P16.1: %v: To(%s): %s; want %s", m, name(p), names(got), names(to[p]))
		}
	}
	cyclic, order := m.cyclicAndOrder()
	if got := g.Cyclic(); !same(got, cyclic) {
		t.Fatalf("P16.1: %v: Cyclic: %s; want %s", m, names(got), names(cyclic))
	}
	if got := g.Order(); !same(got, order) {
		t.Fatalf("P16.1: %v: Order: %s; want %s", m, names(got), names(order))
	}
}

// All contents of three cells, of a few each, and each of them set anew.
func TestSmallGraphs(t *testing.T) {
	places := []api.At{at("A1"), at("B1"), at("A2")}
	texts := []string{"", "=1", "=A1", "=B1", "=A2", "=A1+B1", "=B1:A2", "=A1:A2"}
	ask := append(places, at("B2"), at("c1n1!A1"))
	each := len(texts)
	for n := range each * each * each {
		g, m := New(nil), model{}
		set := func(k, which int) {
			g.Set(places[k], cell(texts[which]))
			m.set(places[k], texts[which])
		}
		now := []int{n % each, n / each % each, n / each / each}
		for k, which := range now {
			set(k, which)
		}
		hold(t, g, m, ask)
		for k, which := range now {
			for i := range texts {
				set(k, i)
				hold(t, g, m, ask)
			}
			set(k, which)
		}
	}
}

// dice is a row of numbers that are the same in each run.
type dice uint64

func (d *dice) roll(n int) int {
	*d = *d*6364136223846793005 + 1442695040888963407
	return int(uint64(*d)>>33) % n
}

func (d *dice) id() string { return []string{first, first, other, "c10n0", "c2n0"}[d.roll(5)] }

// place is one of few, so that formulas meet.
func (d *dice) place(size int) api.At {
	return api.At{Sheet: d.id(), Row: int64(d.roll(size)), Col: int64(d.roll(size))}
}

// formula has up to most references, of which some are ranges.
func (d *dice) formula(size, most int) string {
	out := "=1"
	for range d.roll(most + 1) {
		p, q := d.place(size), d.place(size)
		r := api.Ref{Row: p.Row, Col: p.Col, RowAbs: d.roll(4) == 0, ColAbs: d.roll(4) == 0}
		if d.roll(2) == 0 {
			r.Sheet = p.Sheet
		}
		out += []string{"+", "*", "&", "<", `&"A1"&`, "-#REF!/"}[d.roll(6)] + a1.Print(r)
		if d.roll(4) == 0 {
			q.Row, q.Col = (p.Row+q.Row)/2, (p.Col+q.Col)/2
			out += ":" + a1.Print(api.Ref{Row: q.Row, Col: q.Col})
		}
	}
	return out
}

func (d *dice) text(size, most int) string {
	if n := d.roll(8); n < 3 {
		return []string{"", "12", "'=A1"}[n]
	}
	return d.formula(size, most)
}

// all is all places that dice know, and some more.
func all(size int) []api.At {
	var out []api.At
	for _, id := range []string{first, other, "c10n0", "c2n0", "c3n0"} {
		for row := range int64(size + 1) {
			for col := range int64(size + 1) {
				out = append(out, api.At{Sheet: id, Row: row, Col: col})
			}
		}
	}
	return out
}

// alike says whether g and o keep the same, however they became so.
func alike(g, o *Graph) bool {
	return len(g.formulas) == len(o.formulas) && len(g.crowds) == len(o.crowds) && len(g.index) == len(o.index) &&
		(len(g.formulas) == 0 || reflect.DeepEqual(g, o))
}

// Graphs that change, by contents that are set on a workbook too.
func TestGreaterGraphs(t *testing.T) {
	d := dice(16)
	rings, orders := 0, 0
	for round := range 150 {
		size, most := 2+round%5, 1+round%3
		b := sheet.New()
		for _, id := range []string{other, "c10n0", "c2n0"} {
			b.Apply(api.Op{Kind: api.OAdd, Sheet: id, Name: "x"})
		}
		g, m := New(b), model{}
		for range 40 {
			for range 1 + d.roll(6) {
				p, text := d.place(size), d.text(size, most)
				b.Apply(api.Op{Kind: api.OSet, Sheet: p.Sheet, Row: p.Row, Col: p.Col, Cell: cell(text)})
				g.Set(p, cell(text))
				m.set(p, text)
			}
			hold(t, g, m, all(size))
			if fresh := New(b); !alike(g, fresh) {
				t.Fatalf("P16.1: %v: what was set is kept otherwise than what a workbook had", m)
			}
			if len(g.Cyclic()) > 0 {
				rings++
			}
			if len(g.Order()) > len(m)/2 {
				orders++
			}
		}
	}
	if rings < 1000 || orders < 1000 {
		t.Errorf("the test's own graphs have rings %d times, and mostly none %d times", rings, orders)
	}
}

// Workbooks on which lines and sheets come, go and move.
func TestGraphsOfWorkbooks(t *testing.T) {
	d := dice(1600)
	for round := range 100 {
		size := 3 + round%4
		b := sheet.New()
		b.Apply(api.Op{Kind: api.OAdd, Sheet: other, Name: "x"}, api.Op{Kind: api.OAdd, Sheet: "c10n0", Name: "x"})
		for range 25 {
			for range 6 {
				p := d.place(size)
				b.Apply(api.Op{Kind: api.OSet, Sheet: p.Sheet, Row: p.Row, Col: p.Col, Cell: cell(d.text(size, 3))})
			}
			l := api.Line{Kind: 1 + d.roll(3), At: int64(d.roll(size))}
			if l.Kind == api.LMove {
				l.To = (l.At + 2) % int64(size+2)
			}
			b.Apply(api.Op{Kind: api.ORow + d.roll(2), Sheet: d.id(), Line: l})
			if d.roll(20) == 0 {
				b.Apply(api.Op{Kind: api.OAdd, Sheet: "c2n0", Name: "x"}, api.Op{Kind: api.ORemove, Sheet: d.id()})
			}
			hold(t, New(b), modelOf(b), all(size))
		}
	}
}

// The order in which contents are set says nothing.
func TestTheHistorySaysNothing(t *testing.T) {
	d := dice(161)
	for range 200 {
		m := model{}
		for range 30 {
			m.set(d.place(6), d.formula(6, 3))
		}
		var graphs []*Graph
		for range 4 {
			g, todo := New(nil), m.sorted()
			for len(todo) > 0 {
				i := d.roll(len(todo))
				if d.roll(3) == 0 {
					g.Set(d.place(6), cell(d.formula(6, 3)))
				}
				g.Set(todo[i], cell(m[todo[i]]))
				todo = slices.Delete(todo, i, i+1)
			}
			for p := range g.formulas {
				if _, ok := m[p]; !ok {
					g.Set(p, cell("1"))
				}
			}
			for p, text := range m {
				g.Set(p, cell(text))
			}
			graphs = append(graphs, g)
		}
		hold(t, graphs[0], m, all(6))
		for _, g := range graphs[1:] {
			if !alike(g, graphs[0]) {
				t.Fatalf("P16.1: %v: kept otherwise by another history", m)
			}
		}
	}
}
