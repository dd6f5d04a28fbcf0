package xform

import (
	"fmt"
	"math"
	"slices"
	"strings"
	"testing"
	"unsafe"

	"counterpane/api"
	"counterpane/op"
)

// nest is e within n calls of wrap.
func nest(n int, e api.Expr, wrap func(api.Expr) api.Expr) api.Expr {
	for range n {
		e = wrap(e)
	}
	return e
}

func neg(e api.Expr) api.Expr { return api.Expr{Kind: api.XNeg, Kids: []api.Expr{e}} }

func double(e api.Expr) api.Expr {
	return api.Expr{Kind: api.XBin, Text: "+", Kids: []api.Expr{e, e}}
}

// looped is a tree that is its own kid.
func looped() api.Expr {
	kids := []api.Expr{ref(0, 0), {Kind: api.XBin, Text: "+"}}
	kids[1].Kids = kids
	return kids[1]
}

func ref(row, col int64) api.Expr {
	return api.Expr{Kind: api.XRef, Refs: []api.Ref{{Row: row, Col: col}}}
}

func formula(e api.Expr) api.Op {
	return api.Op{Kind: api.OSet, Sheet: first, Cell: api.Cell{Formula: true, Expr: e}}
}

func value(v api.Value) api.Op {
	return api.Op{Kind: api.OSet, Sheet: first, Cell: api.Cell{Value: v}}
}

func onLine(kind int, l api.Line) api.Op { return api.Op{Kind: kind, Sheet: first, Line: l} }

// wrongOps may not be.
func wrongOps() []api.Op {
	one := api.Rect{R1: 1, C1: 1}
	out := []api.Op{
		{}, {Kind: -1, Sheet: first}, {Kind: 8, Sheet: first}, {Kind: math.MaxInt, Sheet: first}, {Kind: math.MinInt, Sheet: first}, {Sheet: first}, {Kind: api.OSet}, {Kind: api.OSet, Sheet: "x"}, {Kind: api.OSet, Sheet: "c16n0"},
		set(-1, 0, "1"), set(0, -1, ""), set(lines, 0, "1"), set(0, lines, "1"), set(math.MinInt64, math.MaxInt64, "1"),
		formula(looped()), formula(neg(looped())), formula(nest(50, ref(0, 0), neg)), formula(nest(100_000, ref(0, 0), neg)), formula(nest(8, ref(0, 0), double)), formula(nest(1000, ref(0, 0), double)),
		formula(api.Expr{}), formula(ref(-1, 0)), formula(ref(0, lines)), formula(api.Expr{Kind: api.XRange, Refs: []api.Ref{{}}}), formula(api.Expr{Kind: api.XRef, Refs: []api.Ref{{Sheet: "x"}}}), formula(api.Expr{Kind: api.XNum, Num: -1}),
		formula(api.Expr{Kind: api.XCall, Text: "SUM", Kids: slices.Repeat([]api.Expr{ref(0, 0)}, 31)}), formula(api.Expr{Kind: api.XCall, Text: "SUM", Kids: slices.Repeat([]api.Expr{ref(0, 0)}, 100_000)}),
		value(api.Value{Kind: 5}), value(api.Value{Num: 1}), value(api.Value{Kind: api.VText, Text: strings.Repeat("x", 201)}), value(api.Value{Kind: api.VText, Text: "\xff"}), value(api.Value{Kind: api.VError, Err: 8}),
		{Kind: api.OSet, Sheet: first, Cell: api.Cell{Expr: ref(0, 0)}}, {Kind: api.OSet, Sheet: first, Cell: api.Cell{Formula: true, Expr: ref(0, 0), Value: api.Value{Kind: api.VNumber}}},
		onLine(api.ORow, api.Line{}), onLine(api.ORow, line("+-1")), onLine(api.OCol, line(fmt.Sprint("-", lines))), onLine(api.OCol, line("1>1")), onLine(api.ORow, line("1>2")), onLine(api.ORow, line(fmt.Sprint("1>", lines))),
		onLine(api.ORow, api.Line{Kind: 4}), onLine(api.OCol, api.Line{Kind: api.LDel, At: 1, To: 1}), onLine(api.ORow, api.Line{Kind: api.LIns, At: math.MaxInt64}), onLine(api.OCol, api.Line{Kind: api.LMove, At: math.MinInt64, To: math.MaxInt64}),
		format(1), format(-1, one), format(256, one), format(1, one, one), format(1, api.Rect{R1: 257, C1: 1}), format(1, api.Rect{R0: lines, R1: lines + 1, C1: 1}), format(1, api.Rect{R0: -1, R1: 1, C1: 1}), format(1, api.Rect{R0: 1, R1: 1, C1: 1}),
		format(1, slices.Repeat([]api.Rect{one}, 100_000)...), format(1, append(chess(0), append(chess(1), one)...)...), format(0, api.Rect{R0: math.MinInt64, R1: math.MaxInt64, C1: math.MaxInt64}),
		do("c0n0 rename "), do("c0n0 add "), do("c0n0 rename " + strings.Repeat("x", 21)), do("c1n1 add \n"), do("c16n0 add x"), do(" remove"), do("x remove"),
		{Kind: api.ORemove, Sheet: first, Name: "x"}, {Kind: api.ORemove, Sheet: strings.Repeat("c", 100_000)}, {Kind: api.OAdd, Sheet: other, Name: "x", Col: 1},
	}
	for kind := api.OSet; kind <= api.ORemove; kind++ {
		out = append(out, api.Op{Kind: kind, Sheet: first, Row: 1, Line: line("+0"), Rects: []api.Rect{one}, Format: 1, Name: "x"})
	}
	return out
}

// ofEachKind is operations of all kinds, each of which would meet what stands at the beginning of the first sheet.
func ofEachKind() []api.Op {
	return doAll("c0n0!A1 =A1+c1n1!B2", "c0n0 row +0", "c0n0 col -0", "c0n0 #3 0,0,2,2", "c0n0 add x", "c0n0 rename x", "c0n0 remove", "c1n1!A1 =c0n0!A1", "c1n1 remove", "c3n1 add x")
}

func TestOperationsThatMayNotBe(t *testing.T) {
	wrong := wrongOps()
	for k, o := range wrong {
		if op.May(o) {
			t.Fatalf("the test's own operation %d may be", k)
		}
		for i, p := range append(ofEachKind(), wrong...) {
			for _, prior := range []bool{false, true} {
				if got, ok := Op(o, p, prior); ok || !op.Eq(got, api.Op{}) {
					t.Errorf("P18.1: the wrong operation %d behind %d, prior %v, is %.300v", k, i, prior, got)
				}
				if got, ok := Op(p, o, prior); ok || !op.Eq(got, api.Op{}) {
					t.Errorf("P18.1: %d behind the wrong operation %d, prior %v, is %.300v", i, k, prior, got)
				}
			}
		}
	}
}

// One that may not be and one that it meets are none behind one another; what comes behind them goes on.
func TestListsWithOnesThatMayNotBe(t *testing.T) {
	for k, o := range wrongOps() {
		for i, p := range ofEachKind() {
			for _, prior := range []bool{false, true} {
				a, b := Batches([]api.Op{o}, []api.Op{p}, prior)
				c, d := Batches([]api.Op{p}, []api.Op{o}, prior)
				if len(a)+len(b)+len(c)+len(d) != 0 {
					t.Errorf("P18.1: the wrong operation %d beside %d, prior %v: %d, %d, %d, %d are left", k, i, prior, len(a), len(b), len(c), len(d))
				}
			}
		}
		a, b := Batches(append(doAll("c0n0 row +1", "c0n0!A1 x"), o, do("c0n0!A4 y")), doAll("c0n0 row -1", "c0n0!A2 z", "c0n0 row +0"), true)
		if got, want := sayAll(a), []string{"c0n0 row +2", "c0n0!A2 x", "c0n0!A5 y"}; !slices.Equal(got, want) {
			t.Errorf("P18.1: around the wrong operation %d: %q; want %q", k, got, want)
		}
		if got, want := sayAll(b), []string{"c0n0!A3 z", "c0n0 row +0"}; !slices.Equal(got, want) {
			t.Errorf("P18.1: beside the wrong operation %d: %q; want %q", k, got, want)
		}
		// Beside nothing each is as it was.
		whole := []api.Op{o, do("c0n0!A1 x"), o}
		for _, none := range [][]api.Op{nil, {}} {
			a, b = Batches(whole, none, true)
			c, d := Batches(none, whole, true)
			if !sameOps(a, whole) || !sameOps(d, whole) || len(b)+len(c) != 0 {
				t.Errorf("P18.1: the wrong operation %d beside nothing: %d, %d, %d, %d are left", k, len(a), len(b), len(c), len(d))
			}
		}
	}
}

func TestMixedListsByDice(t *testing.T) {
	d, wrong, right := dice(81), wrongOps(), append(small(), ofEachKind()...)
	// What says nothing in so many words is left out, so that lists can be told apart.
	wrong = slices.DeleteFunc(wrong, func(o api.Op) bool { return len(o.Rects) > 300 || o.Cell.Formula && len(o.Cell.Expr.Kids) > 40 })
	list := func() []api.Op {
		var out []api.Op
		for range d.roll(6) {
			if d.roll(5) == 0 {
				out = append(out, wrong[d.roll(len(wrong))])
			} else {
				out = append(out, right[d.roll(len(right))])
			}
		}
		return out
	}
	for range 3000 {
		a, b, prior := list(), list(), d.roll(2) == 0
		a2, b2 := Batches(a, b, prior)
		a3, b3 := squares(a, b, prior)
		if !sameOps(a2, opsOf(a3)) || !sameOps(b2, opsOf(b3)) {
			t.Fatalf("P18.1: lists of %d and %d with wrong ones, prior %v: %d and %d are left; want %d and %d", len(a), len(b), prior, len(a2), len(b2), len(a3), len(b3))
		}
	}
}

// A tree that is as deep or as great as may be is rewritten; so is one whose lists stand at several places.
func TestTreesThatJustMayBe(t *testing.T) {
	sum := func(e api.Expr) api.Expr {
		return api.Expr{Kind: api.XCall, Text: "SUM", Kids: slices.Repeat([]api.Expr{nest(5, e, neg)}, 30)}
	}
	range2 := func(row int64) api.Expr {
		return api.Expr{Kind: api.XRange, Refs: []api.Ref{{Row: row, RowAbs: true}, {Row: row + 3, Col: 2, ColAbs: true}}}
	}
	gone := api.Expr{Kind: api.XErr, Err: api.ERef}
	for i, make := range []func(api.Expr) api.Expr{
		func(e api.Expr) api.Expr { return nest(49, e, neg) },
		func(e api.Expr) api.Expr { return nest(6, e, double) },
		sum,
	} {
		for _, e := range [][3]api.Expr{{ref(4, 1), ref(5, 1), gone}, {range2(4), range2(5), gone}, {gone, gone, gone}} {
			o := formula(make(e[0]))
			o.Row = 9
			for j, b := range doAll("c0n0 row +2", "c0n0 row -4", "c0n0 add x", "c0n0!A1 3", "c1n1 remove") {
				want := o
				switch j {
				case 0:
					want.Row, want.Cell.Expr = 10, make(e[1])
				case 1:
					want.Row, want.Cell.Expr = 8, make(e[2])
				}
				if got, ok := Op(o, b, true); !ok || !op.Eq(got, want) || !op.May(got) {
					t.Errorf("P18.1: tree %d behind %s is %v: %.300v", i, say(b), ok, got)
				}
			}
			o.Sheet = other
			want := o
			want.Cell.Expr = make(e[0])
			if got, ok := Op(o, do("c0n0 remove"), false); !ok || !op.Eq(got, want) {
				t.Errorf("P18.1: tree %d behind the going of another sheet is %v: %.300v", i, ok, got)
			}
		}
	}
}

// rich is operations with lists and texts, all in memory of their own, with spare room.
func rich() []api.Op {
	roomy := func(o api.Op) api.Op {
		o.Sheet, o.Name, o.Cell.Value.Text = strings.Clone(o.Sheet), strings.Clone(o.Name), strings.Clone(o.Cell.Value.Text)
		if len(o.Rects) > 0 {
			o.Rects = append(append(make([]api.Rect, 0, 9), o.Rects...), api.Rect{R0: 7, R1: 77, C0: 7, C1: 77})[:len(o.Rects)]
		}
		o.Cell.Expr = roomyTree(o.Cell.Expr)
		return o
	}
	var out []api.Op
	for _, o := range doAll("c0n0!B3 =SUM(c1n1!A1:B2,-C3)&\"a text\"&c0n0!A5", "c0n0!B4 =c1n1!A1+B4", "c0n0!B5 a value", "c0n0 #3 0,0,1,3 2,1,4,2", "c0n0 #4 3,0,6,3", "c0n0 row +1", "c0n0 col 1>4", "c3n1 add a name", "c0n0 rename new name", "c1n1 rename n", "c1n1!A2 =c0n0!B3:C4", "c1n1 row -0") {
		out = append(out, roomy(o))
	}
	return out
}

func roomyTree(e api.Expr) api.Expr {
	e.Text = strings.Clone(e.Text)
	if len(e.Refs) > 0 {
		refs := append(append(make([]api.Ref, 0, 5), e.Refs...), api.Ref{Row: 77})
		e.Refs = refs[:len(e.Refs)]
		for i := range e.Refs {
			e.Refs[i].Sheet = strings.Clone(e.Refs[i].Sheet)
		}
	}
	if len(e.Kids) > 0 {
		kids := append(append(make([]api.Expr, 0, 5), e.Kids...), api.Expr{Kind: 77})
		e.Kids = kids[:len(e.Kids)]
		for i := range e.Kids {
			e.Kids[i] = roomyTree(e.Kids[i])
		}
	}
	return e
}

// memory is where the lists, spare room too, and the texts of os lie.
func memory(os []api.Op) map[unsafe.Pointer]string {
	out := map[unsafe.Pointer]string{}
	text := func(s string) {
		if s != "" {
			out[unsafe.Pointer(unsafe.StringData(s))] = s
		}
	}
	var tree func(e api.Expr)
	tree = func(e api.Expr) {
		text(e.Text)
		for i, r := range e.Refs[:cap(e.Refs)] {
			out[unsafe.Pointer(&e.Refs[:cap(e.Refs)][i])] = "a reference"
			text(r.Sheet)
		}
		for i, kid := range e.Kids[:cap(e.Kids)] {
			out[unsafe.Pointer(&e.Kids[:cap(e.Kids)][i])] = "a kid"
			tree(kid)
		}
	}
	for i := range os[:cap(os)] {
		o := &os[:cap(os)][i]
		out[unsafe.Pointer(o)] = "an operation"
		text(o.Sheet)
		text(o.Name)
		text(o.Cell.Value.Text)
		tree(o.Cell.Expr)
		for k := range o.Rects[:cap(o.Rects)] {
			out[unsafe.Pointer(&o.Rects[:cap(o.Rects)][k])] = "a rectangle"
		}
	}
	return out
}

func apart(t *testing.T, what string, lists ...[]api.Op) {
	t.Helper()
	seen := map[unsafe.Pointer]int{}
	for i, list := range lists {
		for p, name := range memory(list) {
			if k, again := seen[p]; again {
				t.Errorf("P0.3: %s: %s lies in the lists %d and %d", what, name, k, i)
			}
			seen[p] = i
		}
	}
}

func inFull(os []api.Op) string {
	out := fmt.Sprint(os[:cap(os)])
	var tree func(e api.Expr)
	tree = func(e api.Expr) {
		out += fmt.Sprint(e.Refs[:cap(e.Refs)])
		for _, kid := range e.Kids[:cap(e.Kids)] {
			tree(kid)
		}
	}
	for _, o := range os[:cap(os)] {
		out += fmt.Sprint(o.Rects[:cap(o.Rects)])
		tree(o.Cell.Expr)
	}
	return out
}

// What was handed in is neither changed nor kept, and answers lie apart from it and from one another.
func TestMemory(t *testing.T) {
	for i := range rich() {
		for j := range rich() {
			for _, prior := range []bool{false, true} {
				a, b := rich()[i:i+1:i+1], rich()[j:j+1:j+1]
				before := inFull(a) + inFull(b)
				got, _ := Op(a[0], b[0], prior)
				again, _ := Op(a[0], b[0], prior)
				what := say(a[0]) + " behind " + say(b[0])
				apart(t, what, a, b, []api.Op{got}, []api.Op{again})
				if inFull(a)+inFull(b) != before {
					t.Errorf("P0.3: %s: what was handed in is changed", what)
				}
				spoil(got)
				if want, _ := Op(rich()[i], rich()[j], prior); !op.Eq(again, want) {
					t.Errorf("P0.3: %s: who writes into one answer changes another", what)
				}
			}
		}
	}
	for _, prior := range []bool{false, true} {
		for _, sides := range [][2][]api.Op{{rich(), rich()}, {rich(), nil}, {nil, rich()}, {rich()[:3], rich()[3:]}, {rich()[5:], rich()[:4]}} {
			a, b := append(make([]api.Op, 0, 20), sides[0]...), append(make([]api.Op, 0, 20), sides[1]...)
			before := inFull(a) + inFull(b)
			a2, b2 := Batches(a, b, prior)
			a3, b3 := Batches(a, b, prior)
			apart(t, "Batches", a, b, a2, b2, a3, b3)
			if inFull(a)+inFull(b) != before {
				t.Error("P0.3: Batches changes what was handed in")
			}
			want := fmt.Sprint(sayAll(a3), sayAll(b3))
			for _, list := range [][]api.Op{a2, b2, a, b} {
				for i, o := range list {
					spoil(o)
					list[i] = api.Op{}
				}
			}
			if got := fmt.Sprint(sayAll(a3), sayAll(b3)); got != want {
				t.Errorf("P0.3: who writes into lists makes %s of %s", got, want)
			}
		}
	}
}

// The same operation, and the same tree, at several places of both lists.
func TestSharedMemory(t *testing.T) {
	o := do("c0n0!A9 =A1+A2*c1n1!B2")
	shared := formula(api.Expr{Kind: api.XBin, Text: "*", Kids: []api.Expr{o.Cell.Expr, o.Cell.Expr}})
	a := []api.Op{o, shared, do("c0n0 row +0"), o}
	before := inFull(a)
	a2, b2 := Batches(a, a, true)
	if got, want := sayAll(a2), []string{"c0n0 row +0"}; !slices.Equal(got, want) {
		t.Errorf("P18.1: a list behind itself: %q; want %q", got, want)
	}
	want := []string{"c0n0!A10 =A2+A3*c1n1!B2", "c0n0!A2 =(A2+A3*c1n1!B2)*(A2+A3*c1n1!B2)", "c0n0 row +1", "c0n0!A10 =A2+A3*c1n1!B2"}
	if got := sayAll(b2); !slices.Equal(got, want) {
		t.Errorf("P18.1: a list behind itself: %q; want %q", got, want)
	}
	apart(t, "a list behind itself", a, a2, b2)
	if inFull(a) != before {
		t.Error("P0.3: Batches changes what was handed in")
	}
}

// spoil writes into all lists of o.
func spoil(o api.Op) {
	for i := range o.Rects[:cap(o.Rects)] {
		o.Rects[:cap(o.Rects)][i] = api.Rect{R0: 50, R1: 60, C0: 50, C1: 60}
	}
	var tree func(e api.Expr)
	tree = func(e api.Expr) {
		for i := range e.Refs[:cap(e.Refs)] {
			e.Refs[:cap(e.Refs)][i] = api.Ref{Sheet: "c9n9", Row: 77}
		}
		for i, kid := range e.Kids[:cap(e.Kids)] {
			tree(kid)
			e.Kids[:cap(e.Kids)][i] = api.Expr{Kind: 77}
		}
	}
	tree(o.Cell.Expr)
}

// Empty lists in an operation are as nil ones.
func TestEmptyListsInOperations(t *testing.T) {
	o := do("c0n0!B3 =B3+1")
	o.Rects, o.Cell.Expr.Refs, o.Cell.Expr.Kids[0].Kids = []api.Rect{}, []api.Ref{}, []api.Expr{}
	check(t, o, do("c0n0 row +0"), true, "c0n0!B4 =B4+1")
	p := do("c0n0 row +0")
	p.Rects, p.Cell.Expr.Refs, p.Cell.Expr.Kids = []api.Rect{}, []api.Ref{}, []api.Expr{}
	check(t, p, o, true, "=")
	check(t, o, p, false, "c0n0!B4 =B4+1")
	check(t, p, p, false, "c0n0 row +1")
}

// The same again has the same answer, whatever was asked between.
func TestSameAnswersAgain(t *testing.T) {
	var want string
	for i := range 20 {
		a, b := Batches(rich(), append(ofEachKind()[:6], rich()...), i%2 == 0)
		c, _ := Batches(rich(), append(ofEachKind()[:6], rich()...), true)
		if got := fmt.Sprint(sayAll(c)); i > 0 && got != want {
			t.Fatalf("P0.5: %s; ahead: %s", got, want)
		} else {
			want = got
		}
		Batches(b, a, true)
		Op(do("c0n0!A1 x"), do("c0n0 remove"), false)
	}
}

// Lists may be longer than a batch.
func TestLongLists(t *testing.T) {
	many := func(n int, text string) []api.Op { return slices.Repeat(doAll(text), n) }
	a, b := Batches(many(20_000, "c0n0 row +0"), doAll("c0n0!A1 =A2", "c0n0 row +0"), true)
	if got := sayAll(b); len(a) != 20_000 || len(got) != 2 || got[0] != "c0n0!A20001 =A20002" || got[1] != "c0n0 row +20000" || say(a[19_999]) != "c0n0 row +0" {
		t.Errorf("P18.1: behind 20,000 new lines: %q", got)
	}
	a, b = Batches(doAll("c0n0!A1 =A2", "c0n0!A7 x"), many(20_000, "c0n0!A1 1"), true)
	if got := sayAll(a); !slices.Equal(got, []string{"c0n0!A7 x"}) || len(b) != 20_000 {
		t.Errorf("P18.1: behind 20,000 that set a cell: %q", got)
	}
	a, b = Batches(many(500, "c0n0 row +0"), many(500, "c0n0 row +0"), true)
	for i := range 500 {
		if len(a) != 500 || len(b) != 500 || say(a[i]) != "c0n0 row +0" || say(b[i]) != "c0n0 row +500" {
			t.Fatalf("P18.1: 500 new lines beside 500: %d, %d", len(a), len(b))
		}
	}
}
