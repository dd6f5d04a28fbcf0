package sheet

import (
	"fmt"
	"maps"
	"math"
	"slices"
	"strings"
	"testing"
	"unsafe"

	"counterpane/api"
	"counterpane/op"
	"counterpane/show"
)

func number(n api.Fix) api.Expr { return api.Expr{Kind: api.XNum, Num: n * 10000} }

// nest is e within n calls of wrap.
func nest(n int, e api.Expr, wrap func(api.Expr) api.Expr) api.Expr {
	for range n {
		e = wrap(e)
	}
	return e
}

func neg(e api.Expr) api.Expr { return api.Expr{Kind: api.XNeg, Kids: []api.Expr{e}} }

func double(e api.Expr) api.Expr {
	return api.Expr{Kind: api.XBin, Text: "+", Kids: []api.Expr{e, e}}
}

// looped is a tree that is its own kid.
func looped() api.Expr {
	kids := []api.Expr{number(1), {Kind: api.XBin, Text: "+"}}
	kids[1].Kids = kids
	return kids[1]
}

// wrongOps are operations on the first sheet that may not be.
func wrongOps() []api.Op {
	formula := func(e api.Expr) api.Op {
		return api.Op{Kind: api.OSet, Sheet: first, Cell: api.Cell{Formula: true, Expr: e}}
	}
	value := func(v api.Value) api.Op {
		return api.Op{Kind: api.OSet, Sheet: first, Cell: api.Cell{Value: v}}
	}
	many := slices.Repeat([]api.Rect{rect(0, 0, 1, 1)}, 257)
	out := []api.Op{
		{}, {Kind: -1, Sheet: first}, {Kind: 8, Sheet: first}, {Kind: math.MaxInt, Sheet: first}, {Kind: math.MinInt, Sheet: first}, {Sheet: first},
		set(first, -1, 0, "1"), set(first, 0, -1, ""), set(first, lines, 0, "1"), set(first, 0, lines, "1"), set(first, math.MinInt64, math.MaxInt64, "1"),
		formula(api.Expr{}), formula(api.Expr{Kind: api.XNum, Num: -1}), formula(nest(50, number(1), neg)), formula(nest(100000, number(1), neg)), formula(nest(8, number(1), double)),
		formula(nest(1000, number(1), double)), formula(looped()), formula(api.Expr{Kind: api.XRef, Refs: []api.Ref{{Row: -1}}}), formula(api.Expr{Kind: api.XCall, Text: "sum"}),
		value(api.Value{Kind: 5}), value(api.Value{Num: 1}), value(api.Value{Kind: api.VText, Text: strings.Repeat("x", 201)}), value(api.Value{Kind: api.VText, Text: "\xff"}), value(api.Value{Kind: api.VError}),
		{Kind: api.OSet, Sheet: first, Cell: api.Cell{Formula: true, Value: api.Value{Kind: api.VBool}, Expr: number(1)}}, {Kind: api.OSet, Sheet: first, Cell: api.Cell{Expr: number(1)}},
		rows(first, api.Line{}), rows(first, ins(-1)), rows(first, ins(lines)), rows(first, del(-1)), rows(first, del(lines)), rows(first, move(1, 1)), rows(first, move(1, 2)), rows(first, move(1, lines)), rows(first, api.Line{Kind: api.LDel, At: 1, To: 1}), rows(first, api.Line{Kind: 4}),
		cols(first, api.Line{}), cols(first, ins(-1)), cols(first, ins(lines)), cols(first, move(0, 0)), cols(first, move(0, math.MaxInt64)), cols(first, ins(math.MinInt64)),
		format(first, 1), format(first, -1, rect(0, 0, 1, 1)), format(first, 256, rect(0, 0, 1, 1)), format(first, 1, rect(0, 0, 0, 1)), format(first, 1, rect(0, 0, 1, 257)), format(first, 1, rect(0, 0, lines, lines)),
		format(first, 1, rect(-1, 0, 1, 1)), format(first, 1, rect(lines, 0, lines+1, 1)), format(first, 1, rect(0, 1, 1, 2), rect(0, 0, 1, 1)), format(first, 1, many...), format(first, 0, rect(math.MinInt64, 0, math.MaxInt64, 1)),
		rename(first, ""), rename(first, strings.Repeat("x", 21)), rename(first, "a\n"), rename(first, "\x7f"), rename(first, "é"),
		add(other, ""), add(other, strings.Repeat("x", 21)), add(other, "\x1f"), add("", "x"), add("c16n0", "x"), add("c0n1000000", "x"), add("Sheet", "x"), add("c01n0", "x"),
		remove(""), remove("Sheet"), remove("c0n0 "), {Kind: api.ORemove, Sheet: first, Name: "x"}, {Kind: api.ORemove, Sheet: first, Format: 1}, {Kind: api.OAdd, Sheet: other, Name: "x", Row: 1},
	}
	for _, kind := range []int{api.OSet, api.ORow, api.OCol, api.OFormat, api.OAdd, api.ORename} {
		o := api.Op{Kind: kind, Sheet: first, Row: 1, Line: ins(0), Rects: []api.Rect{rect(0, 0, 1, 1)}, Format: 1, Name: "x"}
		out = append(out, o)
	}
	return out
}

func TestOperationsThatMayNotBe(t *testing.T) {
	b := sample(t)
	before := b.Copy()
	for _, o := range wrongOps() {
		if op.May(o) {
			t.Fatalf("the test's own operation %+v may be", o)
		}
		if b.Stands(o) || b.Stands(set(first, 0, 0, "1"), o) || b.Stands(o, set(first, 0, 0, "1")) {
			t.Errorf("P14.1: an operation of kind %d that may not be stands", o.Kind)
		}
		if n := b.Apply(o); n != 0 || !b.Eq(before) {
			t.Fatalf("P14.1: an operation of kind %d that may not be: %d, %s", o.Kind, n, told(b))
		}
		// Those around it are done.
		c := b.Copy()
		if n := c.Apply(rename(first, "A"), o, rename(other, "B"), o); n != 2 || c.Name(first) != "A" || c.Name(other) != "B" {
			t.Errorf("P14.1: around an operation of kind %d that may not be: %d, %s", o.Kind, n, told(c))
		}
	}
	if n := b.Apply(wrongOps()...); n != 0 || !b.Eq(before) {
		t.Errorf("P14.1: operations that may not be: %d", n)
	}
}

func TestPlacesThatAreNone(t *testing.T) {
	b := sample(t)
	for _, id := range []string{first, other, "", "x", none, "\xff", strings.Repeat("c", 100000)} {
		for _, n := range []int64{-1, math.MinInt64, math.MaxInt64, lines, 1 << 60} {
			for _, at := range []api.At{{Sheet: id, Row: n}, {Sheet: id, Col: n}, {Sheet: id, Row: n, Col: n}} {
				if c := b.Cell(at); c.Formula || c.Value != (api.Value{}) || c.Expr.Kind != 0 || len(c.Expr.Refs)+len(c.Expr.Kids) != 0 || b.Format(at) != 0 {
					t.Errorf("P14.1: something stands at %v", at)
				}
			}
		}
	}
}

func TestNil(t *testing.T) {
	var b *Book
	if b.Apply() != 0 || b.Apply(set(first, 0, 0, "1")) != 0 || b.Apply(add(other, "x"), remove(other)) != 0 || b.Apply(wrongOps()...) != 0 {
		t.Error("P14.1: Apply on nil does something")
	}
	if b.Stands() || b.Stands(set(first, 0, 0, "1")) || b.Stands(add(other, "x")) || b.Stands(wrongOps()...) {
		t.Error("P14.1: something stands in nil")
	}
	if len(b.Sheets())+len(b.Used()) != 0 || b.Name(first) != "" || b.Name("") != "" || len(b.Cells(first))+len(b.Formats(first))+len(b.Cells(""))+len(b.Formats("")) != 0 {
		t.Error("P14.1: nil has something")
	}
	if c := b.Cell(api.At{Sheet: first}); c.Formula || c.Value != (api.Value{}) || c.Expr.Kind != 0 || b.Format(api.At{Sheet: first}) != 0 || b.Format(api.At{}) != 0 {
		t.Error("P14.1: nil has a cell or a format")
	}
	if b.Copy() != nil {
		t.Error("P14.1: nil has a copy")
	}
	empty := New()
	empty.Apply(remove(first))
	for _, o := range []*Book{New(), empty, {}} {
		if b.Eq(o) || o.Eq(b) || o.Eq(nil) {
			t.Errorf("P14.1: nil is Eq with %s", told(o))
		}
	}
	if !b.Eq(nil) || !b.Eq(b) {
		t.Error("P14.1: nil is not Eq with nil")
	}
}

// A Book that New did not make is as those that it makes are at first, whichever method is asked first.
func TestZeroBook(t *testing.T) {
	for what, same := range map[string]func(b *Book) bool{
		"Sheets":     func(b *Book) bool { return slices.Equal(b.Sheets(), []string{first}) },
		"Used":       func(b *Book) bool { return slices.Equal(b.Used(), []string{first}) },
		"Name":       func(b *Book) bool { return b.Name(first) == "Sheet" },
		"Cell":       func(b *Book) bool { return show.Cell(b.Cell(api.At{Sheet: first})) == "" },
		"Format":     func(b *Book) bool { return b.Format(api.At{Sheet: first}) == 0 },
		"Cells":      func(b *Book) bool { return len(b.Cells(first)) == 0 },
		"Formats":    func(b *Book) bool { return len(b.Formats(first)) == 0 },
		"Copy":       func(b *Book) bool { return told(b.Copy()) == "c0n0=Sheet{}" },
		"Eq":         func(b *Book) bool { return b.Eq(New()) },
		"Eq of it":   func(b *Book) bool { return New().Eq(b) },
		"Eq of both": func(b *Book) bool { return b.Eq(&Book{}) },
		"Stands":     func(b *Book) bool { return b.Stands(remove(first), add(other, "x")) && !b.Stands(add(first, "x")) },
		"Apply":      func(b *Book) bool { return b.Apply(add(first, "x"), rename(first, "y"), rename(first, "Sheet")) == 2 },
	} {
		b := &Book{}
		if !same(b) {
			t.Errorf("P14.1: %s of a zero Book", what)
		}
		check(t, b, "c0n0=Sheet{}")
		if !b.Eq(New()) || !slices.Equal(b.Used(), []string{first}) {
			t.Errorf("P14.1: a zero Book behind %s", what)
		}
	}
	b := &Book{}
	c := b.Copy()
	apply(t, b, 3, set(first, 0, 0, "1"), remove(first), add(other, "x"), add(first, "x"))
	check(t, b, "c1n1=x{}")
	check(t, c, "c0n0=Sheet{}")
}

func TestEqOfOneThing(t *testing.T) {
	start := sample(t)
	formula := show.Cell(start.Cell(api.At{Sheet: first, Row: 2, Col: 2}))
	for what, os := range map[string][]api.Op{
		"a name":                   {rename(first, "sheet")},
		"the other sheet's name":   {rename(other, "Two ")},
		"a value":                  {set(first, 1, 1, "One")},
		"a value's kind":           {set(first, 1, 1, "1")},
		"a cell more":              {set(other, 9, 9, "1")},
		"a cell less":              {set(first, 1, 1, "")},
		"a cell at another row":    {set(first, 1, 1, ""), set(first, 2, 1, "one")},
		"a cell at another column": {set(first, 1, 1, ""), set(first, 1, 0, "one")},
		"a formula for its text":   {set(first, 2, 2, "'"+formula)},
		"a mark of a reference":    {set(first, 2, 2, strings.Replace(formula, "$C$4", "C$4", 1))},
		"a reference's row":        {set(first, 0, 0, "=B$2+c1n1!C2")},
		"a reference's sheet":      {set(first, 0, 0, "=B$3+c1n2!C2")},
		"a reference's own sheet":  {set(first, 0, 0, "=c0n0!B$3+c1n1!C2")},
		"a formula on the other":   {set(other, 0, 2, "=A3+c0n0!C2")},
		"a format":                 {format(first, 4, rect(1, 1, 2, 2))},
		"a format more":            {format(other, 6, rect(0, 3, 1, 4))},
		"a format less":            {format(other, 0, rect(0, 1, 1, 2))},
		"a format elsewhere":       {format(other, 0, rect(0, 1, 1, 2)), format(other, 6, rect(1, 1, 2, 2))},
		"a sheet more":             {add(third, "x")},
		"a used id":                {add(third, "x"), remove(third)},
		"a sheet less":             {remove(other)},
	} {
		b := start.Copy()
		apply(t, b, len(os), os...)
		if b.Eq(start) || start.Eq(b) {
			t.Errorf("P14.1: workbooks that differ in %s are Eq", what)
		}
		// The same done to both makes them the same again.
		o := start.Copy()
		apply(t, o, len(os), os...)
		if !b.Eq(o) || !o.Eq(b) {
			t.Errorf("P14.1: workbooks that both have %s are not Eq", what)
		}
	}
	// Each of two has a sheet, or an id, that the other has not.
	b, o := New(), New()
	apply(t, b, 1, add(other, "x"))
	apply(t, o, 1, add(third, "x"))
	if b.Eq(o) || o.Eq(b) {
		t.Error("P14.1: workbooks with other sheets are Eq")
	}
	apply(t, b, 1, remove(other))
	apply(t, o, 1, remove(third))
	if b.Eq(o) || o.Eq(b) {
		t.Error("P14.1: workbooks with other used ids are Eq")
	}
}

func TestEqByOtherWays(t *testing.T) {
	b, o := New(), New()
	apply(t, b, 7, add(other, "x"), set(first, 1, 0, "=A1+c1n1!B2"), set(first, 0, 0, "1"), format(first, 2, rect(0, 0, 2, 2)), rename(other, "y"), rows(first, ins(0)), add(third, "z"))
	apply(t, o, 10, set(first, 5, 5, "gone"), add(third, "z"), add(other, "y"), set(first, 1, 0, "1"), format(first, 2, rect(1, 0, 3, 1)), format(first, 2, rect(1, 1, 3, 2)), set(first, 2, 0, "=A2+c1n1!C2"), cols(other, del(0)), set(first, 5, 5, ""), rows(third, del(0)))
	if !b.Eq(o) || !o.Eq(b) {
		t.Errorf("P14.1: %s is not Eq with %s", told(b), told(o))
	}
	// A tree with an empty list is the same as one without.
	c := cell("=A1+1")
	c.Expr.Kids[0].Kids, c.Expr.Refs = []api.Expr{}, []api.Ref{}
	apply(t, b, 1, api.Op{Kind: api.OSet, Sheet: first, Cell: c})
	apply(t, o, 1, set(first, 0, 0, "=A1+1"))
	if !b.Eq(o) || !o.Eq(b) {
		t.Error("P0.4: a tree with an empty list is not the same as one without")
	}
}

func TestCopy(t *testing.T) {
	b := sample(t)
	before := told(b)
	changes := []api.Op{set(first, 0, 0, "2"), set(first, 1, 1, ""), set(other, 7, 7, "=A1"), rows(first, ins(0)), cols(other, del(0)), format(first, 1, rect(0, 0, 9, 9)), format(other, 0, rect(0, 0, 3, 3)), rename(first, "N"), add(third, "x"), remove(other)}
	for _, o := range changes {
		c := b.Copy()
		apply(t, c, 1, o)
		check(t, b, before)
		if told(c) == before || c.Eq(b) || slices.Contains(b.Used(), third) {
			t.Errorf("P14.1: %+v on a copy", o)
		}
		// The other way round: the copy stays when what was copied goes on.
		c = b.Copy()
		d := c.Copy()
		apply(t, c, 1, o)
		check(t, d, before)
		if d.Eq(c) || slices.Contains(d.Used(), third) {
			t.Errorf("P14.1: %+v on what was copied", o)
		}
	}
	c := b.Copy()
	apply(t, b, len(changes), changes...)
	check(t, c, before)
	if c.Eq(b) || !c.Eq(c.Copy().Copy()) {
		t.Error("P14.1: a copy of a copy")
	}
}

// rich is an operation of each kind that carries lists or texts, all in memory of its own.
func rich() []api.Op {
	return []api.Op{
		add(strings.Clone(third), strings.Clone("a name")),
		{Kind: api.OSet, Sheet: strings.Clone(third), Row: 1, Cell: cell(`=SUM(c1n1!A1:B2,-C3)&"a text"`)},
		{Kind: api.OSet, Sheet: strings.Clone(third), Row: 2, Cell: api.Cell{Value: api.Value{Kind: api.VText, Text: strings.Clone("a value")}}},
		format(strings.Clone(third), 3, rect(0, 0, 1, 2), rect(4, 0, 5, 1)),
		rename(strings.Clone(third), strings.Clone("new name")),
	}
}

func spoilTree(e api.Expr) {
	for i := range e.Refs {
		e.Refs[i] = api.Ref{Sheet: "c9n9", Row: 77}
	}
	for i := range e.Kids {
		spoilTree(e.Kids[i])
		e.Kids[i] = number(77)
	}
}

// Who writes into what was handed in changes nothing.
func TestArgumentsAreNotKept(t *testing.T) {
	room := append(make([]api.Op, 0, 10), rich()...)
	spare := room[:10]
	for i := len(room); i < 10; i++ {
		spare[i] = api.Op{Kind: 40 + i}
	}
	b := New()
	apply(t, b, 5, room...)
	for i, o := range rich() {
		if !op.Eq(o, room[i]) {
			t.Errorf("P0.3: an operation that was handed in became %+v", room[i])
		}
	}
	for i := len(room); i < 10; i++ {
		if spare[i].Kind != 40+i {
			t.Errorf("P0.3: the spare room has %+v", spare[i])
		}
	}
	before := told(b)
	for i := range room {
		spoilTree(room[i].Cell.Expr)
		for k := range room[i].Rects {
			room[i].Rects[k] = rect(50, 50, 60, 60)
		}
		room[i] = api.Op{}
	}
	check(t, b, before)
}

// What was set lies in one list at two places of a tree, and of the workbook.
func TestSharedTrees(t *testing.T) {
	shared := cell("=A1+A2")
	twice := api.Cell{Formula: true, Expr: api.Expr{Kind: api.XBin, Text: "*", Kids: []api.Expr{shared.Expr, shared.Expr}}}
	b := New()
	apply(t, b, 4, add(other, "x"), api.Op{Kind: api.OSet, Sheet: first, Row: 5, Cell: twice}, api.Op{Kind: api.OSet, Sheet: first, Row: 6, Cell: shared}, api.Op{Kind: api.OSet, Sheet: other, Cell: shared})
	apply(t, b, 1, rows(first, ins(0)))
	check(t, b, "c0n0=Sheet{6,0:=(A2+A3)*(A2+A3);7,0:=A2+A3;}c1n1=x{0,0:=A1+A2;}")
	if show.Cell(shared) != "=A1+A2" {
		t.Error("P0.3: a tree that was handed in is changed")
	}
}

// Who writes into what was answered changes nothing.
func TestAnswersAreNew(t *testing.T) {
	b := sample(t)
	before := told(b) + fmt.Sprint(b.Used())
	for range 2 {
		for _, list := range [][]string{b.Sheets(), b.Used()} {
			for i := range list {
				list[i] = "x"
			}
			_ = append(list, "more")
		}
		for _, id := range []string{first, other} {
			for _, list := range [][]api.At{b.Cells(id), b.Formats(id)} {
				for i, at := range list {
					spoilTree(b.Cell(at).Expr)
					list[i] = api.At{Sheet: "x", Row: -1}
				}
				_ = append(list, api.At{})
			}
		}
		if got := told(b) + fmt.Sprint(b.Used()); got != before {
			t.Fatalf("P0.3: who writes into answers makes %s of %s", got, before)
		}
	}
	at := api.At{Sheet: first, Row: 2, Col: 2}
	one, two := b.Cell(at), b.Cell(at)
	spoilTree(one.Expr)
	if show.Cell(two) != "=SUM(A2:$C$4)*c1n1!A1:B3" {
		t.Error("P0.3: two answers share memory")
	}
}

func shares(a, b string) bool { return a != "" && unsafe.StringData(a) == unsafe.StringData(b) }

func TestTextsAreNew(t *testing.T) {
	b, os := New(), rich()
	apply(t, b, 5, os...)
	text, sheet := api.At{Sheet: third, Row: 2}, api.At{Sheet: third, Row: 1}
	if shares(b.Cell(text).Value.Text, os[2].Cell.Value.Text) || shares(b.Cell(text).Value.Text, b.Cell(text).Value.Text) || shares(b.Copy().Cell(text).Value.Text, b.Cell(text).Value.Text) {
		t.Error("P0.3: a cell's text is shared")
	}
	if shares(b.Name(third), os[4].Name) || shares(b.Name(third), b.Name(third)) {
		t.Error("P0.3: a name is shared")
	}
	ref := func(e api.Expr) string { return e.Kids[0].Kids[0].Refs[0].Sheet }
	if shares(ref(b.Cell(sheet).Expr), ref(os[1].Cell.Expr)) || shares(ref(b.Cell(sheet).Expr), ref(b.Cell(sheet).Expr)) {
		t.Error("P0.3: a reference's sheet is shared")
	}
	if shares(b.Sheets()[1], os[0].Sheet) || shares(b.Sheets()[1], b.Used()[1]) || shares(b.Used()[1], b.Used()[1]) {
		t.Error("P0.3: an id is shared")
	}
	if shares(b.Cells(third)[0].Sheet, third) || shares(b.Cells(third)[0].Sheet, b.Sheets()[1]) || shares(b.Formats(third)[0].Sheet, b.Cells(third)[0].Sheet) {
		t.Error("P0.3: a place's sheet is shared")
	}
}

// What is kept lies apart from what was handed in, and from what a copy keeps.
func TestKeptTextsAreNew(t *testing.T) {
	b, os := New(), rich()
	apply(t, b, 1, os[0])
	if shares(b.pages[third].name, os[0].Name) {
		t.Error("P0.3: the name of a new sheet is kept")
	}
	apply(t, b, 4, os[1:]...)
	if shares(b.pages[third].name, os[4].Name) {
		t.Error("P0.3: a name is kept")
	}
	for _, kept := range append(slices.Collect(maps.Keys(b.pages)), slices.Collect(maps.Keys(b.used))...) {
		if shares(kept, os[0].Sheet) {
			t.Error("P0.3: an id is kept")
		}
	}
	c := b.Copy()
	for where, kept := range b.pages[third].cells {
		other := c.pages[third].cells[where]
		if shares(kept.Value.Text, other.Value.Text) || len(kept.Expr.Kids) > 0 && &kept.Expr.Kids[0] == &other.Expr.Kids[0] {
			t.Errorf("P0.3: a copy shares %s", show.Cell(kept))
		}
	}
}

// The same again has the same answers, whatever order the program keeps things in.
func TestSameAnswersAgain(t *testing.T) {
	var want string
	for i := range 30 {
		b := New()
		for _, id := range numbered(15) {
			apply(t, b, 4, add(id, id), set(id, 3, 3, "=c0n0!A1+B2"), set(id, 1, 7, "=c7n3!A1"), format(id, 8, rect(0, 0, 4, 4)))
		}
		apply(t, b, 4, rows(first, ins(0)), rows("c7n5", del(1)), remove("c7n3"), cols("c7n9", move(0, 5)))
		got := told(b) + told(b.Copy()) + fmt.Sprint(b.Used(), b.Sheets())
		if i > 0 && got != want {
			t.Fatalf("P0.5: %s; ahead: %s", got, want)
		}
		want = got
	}
}

// A workbook may have many cells.
func TestManyCells(t *testing.T) {
	b := New()
	const n = 30000
	for i := range int64(n) {
		b.Apply(set(first, i*7919%n, i%11, "=A1"), format(first, 1, rect(i*7919%n, i%11, i*7919%n+1, i%11+1)))
	}
	apply(t, b, 1, rows(first, ins(n/2)))
	got := b.Cells(first)
	if len(got) != n || len(b.Formats(first)) != n || got[n/2].Row != n/2+1 || got[n-1].Row != n {
		t.Errorf("P14.1: %d cells", len(got))
	}
}
