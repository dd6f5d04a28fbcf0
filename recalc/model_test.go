package recalc

import (
	"cmp"
	"fmt"
	"maps"
	"slices"
	"strings"
	"testing"

	"counterpane/a1"
	"counterpane/api"
	"counterpane/eval"
	"counterpane/sheet"
	"counterpane/show"
)

// model is the worths of a workbook another way: who comes to whom is found by going through all cells of all ranges, and each
// worth is asked for from there, with nothing kept from one workbook to the next.
type model struct {
	book   *sheet.Book
	refers map[api.At][]api.At // of each formula, the formulas that it refers to
	worths map[api.At]api.Value
}

func modelOf(b *sheet.Book) *model {
	m := &model{book: b, refers: map[api.At][]api.At{}, worths: map[api.At]api.Value{}}
	for _, id := range b.Sheets() {
		for _, p := range b.Cells(id) {
			if c := b.Cell(p); c.Formula {
				m.refers[p] = m.cells(c.Expr, id)
			}
		}
	}
	return m
}

// cells is the formulas to which e refers.
func (m *model) cells(e api.Expr, home string) []api.At {
	var out []api.At
	if len(e.Refs) > 0 {
		one, two := e.Refs[0], e.Refs[len(e.Refs)-1]
		if max(one.Row, one.Col, two.Row, two.Col) > 100 {
			panic("the test's own formula reaches too far")
		}
		for row := min(one.Row, two.Row); row <= max(one.Row, two.Row); row++ {
			for col := min(one.Col, two.Col); col <= max(one.Col, two.Col); col++ {
				p := api.At{Sheet: cmp.Or(one.Sheet, home), Row: row, Col: col}
				if m.book.Cell(p).Formula {
					out = append(out, p)
				}
			}
		}
	}
	for _, kid := range e.Kids {
		out = append(out, m.cells(kid, home)...)
	}
	return out
}

// reached is those to which one comes from p by one step or more.
func (m *model) reached(p api.At) map[api.At]bool {
	out := map[api.At]bool{}
	todo := slices.Clone(m.refers[p])
	for len(todo) > 0 {
		q := todo[0]
		todo = todo[1:]
		if !out[q] {
			out[q] = true
			todo = append(todo, m.refers[q]...)
		}
	}
	return out
}

func (m *model) cyclic(p api.At) bool {
	reached := m.reached(p)
	for q := range reached {
		if m.reached(q)[q] {
			return true
		}
	}
	return reached[p]
}

func (m *model) worth(p api.At) api.Value {
	c := m.book.Cell(p)
	if !c.Formula {
		return c.Value
	}
	v, ok := m.worths[p]
	if !ok {
		v = api.Value{Kind: api.VError, Err: api.ECycle}
		if !m.cyclic(p) {
			v = eval.Eval(c.Expr, p.Sheet, m)
		}
		m.worths[p] = v
	}
	return v
}

func (m *model) Cell(p api.At) (api.Value, bool) {
	return m.worth(p), slices.Contains(m.book.Sheets(), p.Sheet)
}

func (m *model) Range(id string, r0, c0, r1, c1 int64) ([]api.Value, bool) {
	var out []api.Value
	for row := r0; row <= r1; row++ {
		for col := c0; col <= c1; col++ {
			p := api.At{Sheet: id, Row: row, Col: col}
			if c := m.book.Cell(p); c.Formula || c.Value.Kind != api.VBlank {
				out = append(out, m.worth(p))
			}
		}
	}
	return out, slices.Contains(m.book.Sheets(), id)
}

// stirred is how many formulas that are in no ring are set or come to those that are.
func (m *model) stirred(set map[api.At]bool) int {
	n := 0
	for p := range m.refers {
		comes := set[p]
		for q := range m.blanksToo(p) {
			comes = comes || set[q]
		}
		if comes && !m.cyclic(p) {
			n++
		}
	}
	return n
}

// blanksToo is all cells to which one comes from p, formulas or not.
func (m *model) blanksToo(p api.At) map[api.At]bool {
	out := map[api.At]bool{}
	reached := m.reached(p)
	reached[p] = true
	for q := range reached {
		m.named(m.book.Cell(q).Expr, q.Sheet, out)
	}
	return out
}

func (m *model) named(e api.Expr, home string, out map[api.At]bool) {
	if len(e.Refs) > 0 {
		one, two := e.Refs[0], e.Refs[len(e.Refs)-1]
		for row := min(one.Row, two.Row); row <= max(one.Row, two.Row); row++ {
			for col := min(one.Col, two.Col); col <= max(one.Col, two.Col); col++ {
				out[api.At{Sheet: cmp.Or(one.Sheet, home), Row: row, Col: col}] = true
			}
		}
	}
	for _, kid := range e.Kids {
		m.named(kid, home, out)
	}
}

// told is a workbook's texts, for messages.
func told(b *sheet.Book) string {
	var out strings.Builder
	for _, id := range b.Sheets() {
		for _, p := range b.Cells(id) {
			fmt.Fprintf(&out, "%s:%s ", name(p), show.Cell(b.Cell(p)))
		}
	}
	return out.String()
}

// hold holds c against the workbook that it should be over, and its worths at places and in all cells against a model.
func hold(t *testing.T, what string, c *Calc, b *sheet.Book, places []api.At) {
	t.Helper()
	if !c.Eq(b) {
		t.Fatalf("P17.1: %s: the workbook is %s; want %s", what, told(c.Book), told(b))
	}
	m := modelOf(b)
	for _, id := range b.Sheets() {
		places = append(places, b.Cells(id)...)
	}
	for _, p := range places {
		if got, want := c.Value(p), m.worth(p); got != want {
			t.Fatalf("P17.1: %s: %s: %s is worth %v; want %v", what, told(b), name(p), got, want)
		}
	}
}

// follow does os on both, and holds c against b, and how many formulas were evaluated against how many may be.
func follow(t *testing.T, what string, c *Calc, b *sheet.Book, places []api.At, os ...api.Op) {
	t.Helper()
	before := c.Runs()
	want := 0
	set, lines := map[api.At]bool{}, false
	for _, o := range os {
		n := b.Apply(o)
		want += n
		switch {
		case n == 0:
		case o.Kind == api.OSet:
			set[api.At{Sheet: o.Sheet, Row: o.Row, Col: o.Col}] = true
		case o.Kind != api.OFormat && o.Kind != api.ORename:
			lines = true
		}
	}
	if n := c.Apply(os...); n != want {
		t.Fatalf("P17.1: %s: %d operations stood; want %d", what, n, want)
	}
	hold(t, what, c, b, places)
	runs := c.Runs() - before
	if most := modelOf(b).stirred(set); !lines && runs != most {
		t.Fatalf("P17.1: %s: %+v: %s: %d formulas were evaluated; want %d", what, os, told(b), runs, most)
	}
	if lines && runs > len(modelOf(b).refers) {
		t.Fatalf("P17.1: %s: %s: %d formulas were evaluated, of %d", what, told(b), runs, len(modelOf(b).refers))
	}
}

// All contents of three cells, of a few each, and each of them set anew.
func TestSmallWorkbooks(t *testing.T) {
	names := []string{"A1", "B1", "A2"}
	texts := []string{"", "3", "=A1", "=B1+1", "=A2", "=A1+B1", "=COUNT(B1:A2)", "=SUM(A1:A2)"}
	each := len(texts)
	for n := range each * each * each {
		now := []int{n % each, n / each % each, n / each / each}
		b := sheet.New()
		for k, which := range now {
			b.Apply(put(names[k], texts[which]))
		}
		c := New(b)
		what := fmt.Sprint(texts[now[0]], " ", texts[now[1]], " ", texts[now[2]])
		hold(t, what, c, b, nil)
		if want := modelOf(b).stirred(map[api.At]bool{at("A1"): true, at("B1"): true, at("A2"): true}); c.Runs() != want {
			t.Fatalf("P17.1: %s: %d formulas were evaluated; want %d", what, c.Runs(), want)
		}
		for k, which := range now {
			// Each content once, from where the last one left it.
			for i := range texts {
				follow(t, what, c, b, nil, put(names[k], texts[i]))
			}
			follow(t, what, c, b, nil, put(names[k], texts[which]))
		}
	}
}

// dice is a row of numbers that are the same in each run.
type dice uint64

func (d *dice) roll(n int) int {
	*d = *d*6364136223846793005 + 1442695040888963407
	return int(uint64(*d)>>33) % n
}

func (d *dice) of(texts ...string) string { return texts[d.roll(len(texts))] }

func (d *dice) id() string { return d.of(first, first, first, other, other, "c10n0", "c2n0") }

// place is one of few, so that formulas meet.
func (d *dice) place(size int) api.At {
	return api.At{Sheet: d.id(), Row: int64(d.roll(size)), Col: int64(d.roll(size))}
}

func (d *dice) ref(size int) string {
	p := d.place(size)
	r := api.Ref{Row: p.Row, Col: p.Col, RowAbs: d.roll(4) == 0, ColAbs: d.roll(4) == 0}
	if d.roll(2) == 0 {
		r.Sheet = p.Sheet
	}
	return a1.Print(r)
}

// area is a small range.
func (d *dice) area(size int) string {
	p := d.place(size)
	one, two := api.Ref{Row: p.Row, Col: p.Col}, api.Ref{Row: p.Row + int64(d.roll(3)), Col: p.Col + int64(d.roll(2))}
	if d.roll(2) == 0 {
		one, two = two, one
	}
	if d.roll(2) == 0 {
		one.Sheet = p.Sheet
	}
	return a1.Print(one) + ":" + a1.Print(two)
}

func (d *dice) formula(size int) string {
	switch d.roll(10) {
	case 0:
		return "=IF(" + d.ref(size) + ">1," + d.ref(size) + "," + d.ref(size) + ")"
	case 1:
		return "=ISERROR(" + d.ref(size) + ")"
	case 2:
		return "=" + d.of("SUM", "MAX", "COUNT", "AVERAGE") + "(" + d.area(size) + "," + d.ref(size) + ")"
	case 3, 4:
		return "=" + d.of("SUM", "MIN", "COUNT") + "(" + d.area(size) + ")"
	case 5:
		return "=" + d.of("", "-", "1/") + d.ref(size)
	case 6:
		return "=" + d.of("1", "#N/A", `"x"`, "TRUE", "NOPE()")
	}
	return "=" + d.ref(size) + d.of("+", "*", "&", "<", "/", "-") + d.ref(size)
}

func (d *dice) content(size int) string {
	if n := d.roll(9); n < 4 {
		return []string{"", "12", "x", "0"}[n]
	}
	return d.formula(size)
}

func (d *dice) set(size int) api.Op {
	p := d.place(size)
	return api.Op{Kind: api.OSet, Sheet: p.Sheet, Row: p.Row, Col: p.Col, Cell: cell(d.content(size))}
}

func (d *dice) line(size int) api.Line {
	l := api.Line{Kind: 1 + d.roll(3), At: int64(d.roll(size))}
	if l.Kind == api.LMove {
		l.To = (l.At + 2) % int64(size+2)
	}
	return l
}

// op is mostly a content; seldom, so that much stays, something else.
func (d *dice) op(size int) api.Op {
	switch d.roll(40) {
	case 0:
		return rows(d.id(), d.line(size))
	case 1:
		return cols(d.id(), d.line(size))
	case 2, 3:
		return format(d.id(), d.roll(3), rect(0, 0, 2, 2))
	case 4, 5:
		return rename(d.id(), d.of("x", "y", ""))
	case 6:
		return add(d.id(), "x")
	case 7:
		if d.roll(4) == 0 {
			return remove(d.id())
		}
	case 8:
		o := d.set(size)
		o.Row = -1
		return o
	}
	return d.set(size)
}

// all is all places that dice know, and some more.
func all(size int) []api.At {
	var out []api.At
	for _, id := range []string{first, other, "c10n0", "c2n0", "c3n0"} {
		for row := range int64(size + 1) {
			for col := range int64(size + 1) {
				out = append(out, api.At{Sheet: id, Row: row, Col: col})
			}
		}
	}
	return out
}

func TestGreaterWorkbooks(t *testing.T) {
	d := dice(17)
	rings, errors, numbers := 0, 0, 0
	for round := range 120 {
		size := 2 + round%4
		b := sheet.New()
		b.Apply(add(other, "x"))
		if round%2 == 0 {
			b.Apply(add("c10n0", "y"))
		}
		c := New(b)
		for step := range 40 {
			var os []api.Op
			for range d.roll(5) {
				os = append(os, d.op(size))
			}
			follow(t, fmt.Sprint(round, " ", step), c, b, all(size), os...)
			for _, v := range modelOf(b).all() {
				switch {
				case v == api.Value{Kind: api.VError, Err: api.ECycle}:
					rings++
				case v.Kind == api.VError:
					errors++
				default:
					numbers++
				}
			}
		}
	}
	if min(rings, errors, numbers) < 3000 {
		t.Errorf("the test's own formulas are in rings %d times, errors %d times, and else %d times", rings, errors, numbers)
	}
}

// all is what the formulas are worth.
func (m *model) all() []api.Value {
	var out []api.Value
	for p := range maps.Keys(m.refers) {
		out = append(out, m.worth(p))
	}
	return out
}

// Contents alone, on a greater workbook, so that little hangs on one.
func TestContentsOfGreaterWorkbooks(t *testing.T) {
	d := dice(171)
	for round := range 20 {
		b := sheet.New()
		b.Apply(add(other, "x"), add("c10n0", "y"), add("c2n0", "z"))
		c := New(nil)
		c.Apply(add(other, "x"), add("c10n0", "y"), add("c2n0", "z"))
		for step := range 60 {
			var os []api.Op
			for range 1 + d.roll(2) {
				os = append(os, d.set(9))
			}
			follow(t, fmt.Sprint(round, " ", step), c, b, nil, os...)
		}
	}
}

// Clones go ways of their own.
func TestClonesOfGreaterWorkbooks(t *testing.T) {
	d := dice(1717)
	for range 40 {
		calcs, books := []*Calc{New(nil)}, []*sheet.Book{sheet.New()}
		for step := range 40 {
			i := d.roll(len(calcs))
			if d.roll(5) == 0 && len(calcs) < 5 {
				calcs, books = append(calcs, calcs[i].Clone()), append(books, books[i].Copy())
				if calcs[i].Runs() != calcs[len(calcs)-1].Runs() {
					t.Fatal("P17.1: a clone has other Runs")
				}
			}
			follow(t, fmt.Sprint(step), calcs[i], books[i], nil, d.op(4), d.op(4), d.op(4))
			for j := range calcs {
				hold(t, fmt.Sprint("clone ", j), calcs[j], books[j], nil)
			}
		}
	}
}
