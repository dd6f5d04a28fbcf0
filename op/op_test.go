package op

import (
	"fmt"
	"math"
	"slices"
	"strings"
	"testing"

	"counterpane/a1"
	"counterpane/api"
	"counterpane/show"
)

const (
	here = "c0n0"
	far  = "c15n999999"
)

// The operations that tests ask about.

func set(row, col int64, c api.Cell) api.Op {
	return api.Op{Kind: api.OSet, Sheet: here, Row: row, Col: col, Cell: c}
}
func row(l api.Line) api.Op { return api.Op{Kind: api.ORow, Sheet: here, Line: l} }
func col(l api.Line) api.Op { return api.Op{Kind: api.OCol, Sheet: here, Line: l} }

func format(n int, rs ...api.Rect) api.Op {
	return api.Op{Kind: api.OFormat, Sheet: here, Rects: slices.Clone(rs), Format: n}
}
func add(id, name string) api.Op { return api.Op{Kind: api.OAdd, Sheet: id, Name: name} }
func rename(name string) api.Op  { return api.Op{Kind: api.ORename, Sheet: here, Name: name} }
func remove() api.Op             { return api.Op{Kind: api.ORemove, Sheet: here} }

func ins(at int64) api.Line       { return api.Line{Kind: api.LIns, At: at} }
func del(at int64) api.Line       { return api.Line{Kind: api.LDel, At: at} }
func moved(at, to int64) api.Line { return api.Line{Kind: api.LMove, At: at, To: to} }

func rect(r0, c0, r1, c1 int64) api.Rect { return api.Rect{R0: r0, C0: c0, R1: r1, C1: c1} }

// cell is what one gets who writes s.
func cell(s string) api.Cell {
	c, err := show.Read(s)
	if err != api.OK {
		panic("the test's own cell " + s + " is none")
	}
	return c
}

// ordinary are operations of each kind that may be.
func ordinary() []api.Op {
	return []api.Op{
		set(0, 0, api.Cell{}), set(0, 0, cell("12.5")), set(3, 7, cell("x")), set(3, 7, cell("TRUE")), set(3, 7, cell("#REF!")), set(3, 7, cell("'")),
		set(7, 3, cell("=A1+SUM(c1n2!B2:C3)*-2")), set(9, 9, cell(`="x"&TRUE`)),
		row(ins(0)), row(ins(5)), row(del(0)), row(del(5)), row(moved(0, 2)), row(moved(5, 0)),
		col(ins(0)), col(ins(5)), col(del(0)), col(del(5)), col(moved(0, 2)), col(moved(5, 0)),
		format(0, rect(0, 0, 1, 1)), format(1, rect(0, 0, 1, 1)), format(255, rect(2, 3, 4, 9)), format(7, rect(0, 0, 1, 2), rect(2, 1, 3, 3), rect(2, 4, 3, 5)),
		add(here, "Sheet"), add(far, "a b"), add("c3n17", "~"), rename("Sheet"), rename(" "), remove(),
	}
}

// kinds are one operation of each kind, with nothing in it that it may be without.
func kinds() []api.Op {
	return []api.Op{set(0, 0, api.Cell{}), row(ins(0)), col(ins(0)), format(0, rect(0, 0, 1, 1)), add(here, "a"), rename("a"), remove()}
}

func checkMay(t *testing.T, o api.Op, want bool) {
	t.Helper()
	if May(o) != want {
		t.Errorf("P10.1: May(%.300s) is %v", fmt.Sprintf("%+v", o), !want)
	}
	if Batch(o) != want || Batch(remove(), o) != want {
		t.Errorf("P10.1: Batch of %.300s is %v", fmt.Sprintf("%+v", o), !want)
	}
	if !want && (Edit(0, o) || Edit(0, o, remove())) {
		t.Errorf("P10.1: Edit of %.300s, which may not be", fmt.Sprintf("%+v", o))
	}
}

func TestOrdinaryOperations(t *testing.T) {
	for _, o := range ordinary() {
		checkMay(t, o, true)
		client := 0
		if o.Kind == api.OAdd {
			client = a1.Owner(o.Sheet)
		}
		if !Edit(client, o) {
			t.Errorf("P10.1: Edit of %+v is refused", o)
		}
	}
	for _, o := range kinds() {
		checkMay(t, o, true)
	}
}

func TestKinds(t *testing.T) {
	for _, kind := range []int{-1, 0, 8, 9, 100, math.MaxInt, math.MinInt} {
		checkMay(t, api.Op{Kind: kind}, false)
		for _, o := range ordinary() {
			o.Kind = kind
			checkMay(t, o, false)
		}
	}
	checkMay(t, api.Op{}, false)
	// Of those with other fields no kind is taken for another.
	for _, o := range kinds() {
		for kind := api.OSet; kind <= api.ORemove; kind++ {
			other := o
			other.Kind = kind
			same := kind == o.Kind || o.Kind == api.ORow && kind == api.OCol || o.Kind == api.OCol && kind == api.ORow ||
				o.Kind == api.OAdd && kind == api.ORename || o.Kind == api.ORename && kind == api.OAdd ||
				o.Kind == api.OSet && kind == api.ORemove || o.Kind == api.ORemove && kind == api.OSet
			checkMay(t, other, same)
		}
	}
}

func TestSheets(t *testing.T) {
	for _, o := range ordinary() {
		for _, id := range []string{here, far, "c0n999999", "c15n0", "c9n10", "c10n100"} {
			o.Sheet = id
			checkMay(t, o, true)
		}
		for _, id := range []string{"", "c", "n", "c0", "c0n", "cn0", "c16n0", "c0n1000000", "c00n0", "c0n00", "C0N0", "c0n0 ", " c0n0", "c0n0!", "Sheet", "c-1n0", "c0n-1", "c0n0c0n0", "\xff", "c0n0\x00", strings.Repeat("9", 100000)} {
			o.Sheet = id
			checkMay(t, o, false)
		}
	}
}

func TestRowsAndColumns(t *testing.T) {
	good := []int64{0, 1, 1 << 20, 1 << 40, 1<<40 + 1, 1<<41 - 2, 1<<41 - 1}
	bad := []int64{-1, -2, math.MinInt64, 1 << 41, 1<<41 + 1, 1 << 42, 1 << 60, math.MaxInt64}
	for _, c := range []api.Cell{{}, cell("1"), cell("=A1")} {
		for _, n := range good {
			for _, m := range good {
				checkMay(t, set(n, m, c), true)
			}
			for _, m := range bad {
				checkMay(t, set(n, m, c), false)
				checkMay(t, set(m, n, c), false)
			}
		}
	}
}

// wrongCells are cells that may not be.
func wrongCells() map[string]api.Cell {
	neg := api.Expr{Kind: api.XNum}
	for range 50 {
		neg = api.Expr{Kind: api.XNeg, Kids: []api.Expr{neg}}
	}
	loop := []api.Expr{{Kind: api.XNeg}}
	loop[0].Kids = loop
	one := api.Expr{Kind: api.XNum, Num: 10000}
	return map[string]api.Cell{
		"a formula of nothing":        {Formula: true},
		"a formula with a value":      {Formula: true, Expr: one, Value: api.Value{Kind: api.VNumber, Num: 1}},
		"a formula with a text":       {Formula: true, Expr: one, Value: api.Value{Text: "x"}},
		"a tree that is no formula":   {Expr: one},
		"a value with a tree":         {Value: api.Value{Kind: api.VNumber, Num: 1}, Expr: one},
		"a blank with a number":       {Value: api.Value{Num: 1}},
		"a number with a text":        {Value: api.Value{Kind: api.VNumber, Text: "x"}},
		"a text of 201 bytes":         {Value: api.Value{Kind: api.VText, Text: strings.Repeat("x", 201)}},
		"a text that is no UTF-8":     {Value: api.Value{Kind: api.VText, Text: "\xff"}},
		"the error 0":                 {Value: api.Value{Kind: api.VError}},
		"the error 8":                 {Value: api.Value{Kind: api.VError, Err: 8}},
		"a value's kind that is none": {Value: api.Value{Kind: 5}},
		"a kind below":                {Value: api.Value{Kind: -1}},
		"a tree's kind that is none":  {Formula: true, Expr: api.Expr{Kind: 10}},
		"a number below 0":            {Formula: true, Expr: api.Expr{Kind: api.XNum, Num: -1}},
		"a reference that is lost":    {Formula: true, Expr: api.Expr{Kind: api.XRef, Refs: []api.Ref{{Row: -1}}}},
		"a reference beyond":          {Formula: true, Expr: api.Expr{Kind: api.XRef, Refs: []api.Ref{{Row: 1 << 41}}}},
		"51 deep":                     {Formula: true, Expr: neg},
		"a formula without end":       {Formula: true, Expr: loop[0]},
		"a tree without end":          {Expr: loop[0]},
		"a call of 31":                {Formula: true, Expr: api.Expr{Kind: api.XCall, Text: "F", Kids: slices.Repeat([]api.Expr{one}, 31)}},
	}
}

func TestCells(t *testing.T) {
	for _, s := range []string{"", "0", "-922337203685477.5808", "x", "'" + strings.Repeat("é", 100), "'=A1", "FALSE", "#CYCLE!", "#N/A", "=1", "=F()", "=JMTMMTQOF2199023255552", "=-(1+2)*c15n999999!$A$1:B2", "=" + strings.Repeat("-", 49) + "1", "=" + strings.Repeat("1+", 49) + "1"} {
		checkMay(t, set(1, 1, cell(s)), true)
	}
	for what, c := range wrongCells() {
		if May(set(1, 1, c)) || Batch(set(1, 1, c)) || Edit(0, set(1, 1, c)) {
			t.Errorf("P10.1: a cell that is %s may be set", what)
		}
	}
}

func TestLinesOfOperations(t *testing.T) {
	const last = 1<<41 - 1
	for _, l := range []api.Line{ins(0), ins(1), ins(1 << 40), ins(last), del(0), del(1), del(last), moved(0, 2), moved(1, 0), moved(2, 0), moved(0, last), moved(last, 0), moved(last, last-1), moved(last-2, last)} {
		checkMay(t, row(l), true)
		checkMay(t, col(l), true)
	}
	for _, l := range []api.Line{
		{}, {Kind: 4}, {Kind: -1}, {At: 1}, {To: 1},
		ins(-1), ins(last + 1), ins(math.MinInt64), ins(math.MaxInt64), {Kind: api.LIns, To: 1}, {Kind: api.LIns, To: -1},
		del(-1), del(last + 1), {Kind: api.LDel, At: 3, To: 1},
		moved(0, 0), moved(0, 1), moved(3, 3), moved(3, 4), moved(last, last), moved(last, last+1), moved(-1, 3), moved(3, -1), moved(last+1, 0), moved(0, last+1), moved(math.MaxInt64, math.MinInt64),
	} {
		checkMay(t, row(l), false)
		checkMay(t, col(l), false)
	}
}

// normal is the cells of rs, each below 8, in normal form, drawn one by one.
func normal(rs []api.Rect) []api.Rect {
	var grid [9][9]bool
	for _, r := range rs {
		for i := r.R0; i < r.R1; i++ {
			for k := r.C0; k < r.C1; k++ {
				grid[i][k] = true
			}
		}
	}
	var out []api.Rect
	for top := 0; top < 8; {
		end := top + 1
		for end < 8 && grid[end] == grid[top] {
			end++
		}
		for k := 0; k < 8; k++ {
			from := k
			for grid[top][k] {
				k++
			}
			if k > from {
				out = append(out, rect(int64(top), int64(from), int64(end), int64(k)))
			}
		}
		top = end
	}
	return out
}

// smallRects are all rectangles with numbers of at most most.
func smallRects(most int64) []api.Rect {
	var l []api.Rect
	for r0 := range most {
		for c0 := range most {
			for r1 := r0 + 1; r1 <= most; r1++ {
				for c1 := c0 + 1; c1 <= most; c1++ {
					l = append(l, rect(r0, c0, r1, c1))
				}
			}
		}
	}
	return l
}

func TestNormalForm(t *testing.T) {
	all := smallRects(3)
	good := 0
	check := func(rs ...api.Rect) {
		want := slices.Equal(normal(rs), rs)
		if want {
			good++
		}
		if May(format(1, rs...)) != want {
			t.Errorf("P10.1: May of an OFormat with %+v is %v", rs, !want)
		}
	}
	for _, a := range all {
		check(a)
		for _, b := range all {
			check(a, b)
			for _, c := range all {
				check(a, b, c)
			}
		}
	}
	if good < 100 {
		t.Errorf("the test's own lists: only %d are in normal form", good)
	}
	for _, rs := range [][]api.Rect{
		{rect(0, 0, 1, 1), rect(0, 0, 1, 1)}, {rect(0, 0, 2, 2), rect(0, 0, 1, 1)}, {rect(0, 0, 1, 1), rect(0, 1, 1, 2)}, {rect(0, 0, 1, 1), rect(1, 0, 2, 1)},
		{rect(0, 2, 1, 3), rect(0, 0, 1, 1)}, {rect(2, 0, 3, 1), rect(0, 0, 1, 1)}, {rect(0, 0, 3, 1), rect(1, 2, 2, 3)},
	} {
		checkMay(t, format(1, rs...), false)
	}
	checkMay(t, format(1, rect(0, 0, 1, 1), rect(1, 0, 2, 1), rect(1, 2, 2, 3), rect(2, 0, 3, 1)), true)
}

// A rectangle that may not be is not passed over, wherever it stands.
func TestRectanglesThatMayNotBe(t *testing.T) {
	for _, r := range []api.Rect{{}, rect(0, 0, 0, 1), rect(0, 0, 1, 0), rect(1, 0, 1, 1), rect(2, 0, 1, 1), rect(0, 2, 1, 1), rect(-1, 0, 1, 1), rect(0, -1, 1, 1), rect(0, 0, 1<<42+1, 1), rect(1<<42, 0, 1<<42+1, 1), rect(0, 1<<42, 1, 1<<42+1), rect(math.MinInt64, math.MinInt64, math.MaxInt64, math.MaxInt64), rect(math.MaxInt64-1, 0, math.MaxInt64, 1)} {
		checkMay(t, format(1, r), false)
		checkMay(t, format(1, rect(0, 0, 1, 1), r), false)
		checkMay(t, format(1, r, rect(0, 0, 1, 1)), false)
		checkMay(t, format(1, append(spots(255), r)...), false)
		checkMay(t, format(1, append(spots(256), r)...), false)
	}
	checkMay(t, format(1), false)
	checkMay(t, api.Op{Kind: api.OFormat, Sheet: here, Rects: []api.Rect{}, Format: 1}, false)
	checkMay(t, format(0), false)
}

// The last line that a sheet has is 2^41 - 1, though region knows rectangles of lines beyond it.
func TestRectanglesBeyondTheLastLine(t *testing.T) {
	const most = 1 << 41
	for _, r := range []api.Rect{rect(most-1, 0, most, 1), rect(0, most-1, 1, most), rect(most-16, most-16, most, most), rect(most-256, 3, most, 4), rect(3, most-256, 4, most)} {
		checkMay(t, format(1, r), true)
	}
	checkMay(t, format(1, rect(0, 0, 1, 1), rect(0, most-1, 1, most), rect(2, 0, 3, 1), rect(most-1, most-1, most, most)), true)
	for _, r := range []api.Rect{
		rect(most, 0, most+1, 1), rect(0, most, 1, most+1), rect(most-1, 0, most+1, 1), rect(0, most-1, 1, most+1), rect(most, most, most+1, most+1),
		rect(most-15, most-16, most+1, most), rect(most-16, most-15, most, most+1), rect(2*most-1, 0, 2*most, 1), rect(0, 2*most-1, 1, 2*most), rect(2*most-16, 2*most-16, 2*most, 2*most),
	} {
		checkMay(t, format(1, r), false)
		checkMay(t, format(0, r), false)
	}
	// One of several, at each place.
	for _, rs := range [][]api.Rect{
		{rect(0, most, 1, most+1), rect(2, 0, 3, 1)}, {rect(0, 0, 1, 1), rect(0, most, 1, most+1), rect(2, 0, 3, 1)}, {rect(0, 0, 1, 1), rect(2, 0, 3, 1), rect(most, 0, most+1, 1)},
		append(spots(255), rect(most, 0, most+1, 1)),
	} {
		checkMay(t, format(1, rs...), false)
	}
}

// spots are n cells apart from one another, in normal form.
func spots(n int64) []api.Rect {
	var l []api.Rect
	for i := range n {
		l = append(l, rect(i, 2*(i%7), i+1, 2*(i%7)+1))
	}
	return l
}

func TestManyRectanglesAndCells(t *testing.T) {
	for _, n := range []int64{1, 2, 255, 256, 257, 258, 1000} {
		checkMay(t, format(1, spots(n)...), n <= 256)
		checkMay(t, format(1, rect(0, 0, n, 1)), n <= 256)
		checkMay(t, format(1, rect(0, 0, 1, n)), n <= 256)
		checkMay(t, format(1, rect(5, 9, 5+n, 10)), n <= 256)
	}
	checkMay(t, format(1, rect(0, 0, 16, 16)), true)
	checkMay(t, format(1, rect(0, 0, 16, 17)), false)
	checkMay(t, format(1, rect(0, 0, 17, 16)), false)
	checkMay(t, format(1, rect(0, 0, 16, 16), rect(16, 0, 17, 1)), false)
	checkMay(t, format(1, rect(0, 0, 16, 15), rect(16, 0, 32, 1)), true)
	checkMay(t, format(1, rect(0, 0, 16, 15), rect(16, 0, 33, 1)), false)
	checkMay(t, format(1, append(spots(255), rect(300, 0, 301, 1))...), true)
	checkMay(t, format(1, append(spots(255), rect(300, 0, 301, 2))...), false)
	checkMay(t, format(1, append(spots(128), rect(300, 0, 301, 128))...), true)
	checkMay(t, format(1, append(spots(128), rect(300, 0, 301, 129))...), false)
	// Products of which 64 bits would tell something small.
	checkMay(t, format(1, rect(0, 0, 1<<42, 1<<42)), false)
	checkMay(t, format(1, rect(0, 0, 1<<32, 1<<32)), false)
	checkMay(t, format(1, rect(0, 0, 1<<42, 1<<22)), false)
	checkMay(t, format(1, rect(0, 0, 1<<31, 1<<31), rect(1<<31, 1<<31, 1<<32, 1<<32), rect(1<<32, 0, 1<<33, 1<<31), rect(1<<33, 0, 1<<33+1, 1)), false)
	checkMay(t, format(1, slices.Repeat([]api.Rect{rect(0, 0, 1, 1)}, 100000)...), false)
}

func TestFormats(t *testing.T) {
	for n := -3; n < 300; n++ {
		checkMay(t, format(n, rect(0, 0, 2, 2)), n >= 0 && n <= 255)
	}
	checkMay(t, format(math.MaxInt, rect(0, 0, 1, 1)), false)
	checkMay(t, format(math.MinInt, rect(0, 0, 1, 1)), false)
	checkMay(t, format(1<<32, rect(0, 0, 1, 1)), false)
}

func TestNames(t *testing.T) {
	for _, named := range []func(string) api.Op{rename, func(s string) api.Op { return add(here, s) }} {
		for n := range 25 {
			checkMay(t, named(strings.Repeat("a", n)), n >= 1 && n <= 20)
			checkMay(t, named(strings.Repeat("é", n)), false)
		}
		for b := range 256 {
			one := string([]byte{byte(b)})
			want := b >= 32 && b <= 126
			for _, s := range []string{one, one + "ab", "ab" + one, "a" + one + "b", strings.Repeat("a", 19) + one, one + strings.Repeat("a", 19), strings.Repeat(one, 20)} {
				checkMay(t, named(s), want)
			}
			checkMay(t, named(strings.Repeat("a", 20)+one), false)
		}
		checkMay(t, named(strings.Repeat("a", 1<<20)), false)
		checkMay(t, named("="), true)
		checkMay(t, named("'c0n0'!A1"), true)
	}
}

// extras set one field each, in each part of an operation.
func extras() map[string]func(o *api.Op) {
	return map[string]func(o *api.Op){
		"Row":              func(o *api.Op) { o.Row = 1 },
		"Row below":        func(o *api.Op) { o.Row = -1 },
		"Col":              func(o *api.Op) { o.Col = 1 },
		"Col below":        func(o *api.Op) { o.Col = math.MinInt64 },
		"Cell.Formula":     func(o *api.Op) { o.Cell.Formula = true },
		"Cell.Value":       func(o *api.Op) { o.Cell = cell("1") },
		"Cell.Value.Kind":  func(o *api.Op) { o.Cell.Value.Kind = api.VNumber },
		"Cell.Value.Num":   func(o *api.Op) { o.Cell.Value.Num = 1 },
		"Cell.Value.Text":  func(o *api.Op) { o.Cell.Value.Text = "x" },
		"Cell.Value.Bool":  func(o *api.Op) { o.Cell.Value.Bool = true },
		"Cell.Value.Err":   func(o *api.Op) { o.Cell.Value.Err = 1 },
		"Cell, a formula":  func(o *api.Op) { o.Cell = cell("=A1") },
		"Cell.Expr.Kind":   func(o *api.Op) { o.Cell.Expr.Kind = api.XNum },
		"Cell.Expr.Num":    func(o *api.Op) { o.Cell.Expr.Num = 1 },
		"Cell.Expr.Text":   func(o *api.Op) { o.Cell.Expr.Text = "x" },
		"Cell.Expr.Bool":   func(o *api.Op) { o.Cell.Expr.Bool = true },
		"Cell.Expr.Err":    func(o *api.Op) { o.Cell.Expr.Err = 1 },
		"Cell.Expr.Refs":   func(o *api.Op) { o.Cell.Expr.Refs = []api.Ref{{}} },
		"Cell.Expr.Kids":   func(o *api.Op) { o.Cell.Expr.Kids = []api.Expr{{}} },
		"Line":             func(o *api.Op) { o.Line = ins(3) },
		"Line.Kind":        func(o *api.Op) { o.Line.Kind = 1 },
		"Line.At":          func(o *api.Op) { o.Line.At = 1 },
		"Line.To":          func(o *api.Op) { o.Line.To = 1 },
		"Rects":            func(o *api.Op) { o.Rects = []api.Rect{rect(0, 0, 1, 1)} },
		"Rects of a zero":  func(o *api.Op) { o.Rects = []api.Rect{{}} },
		"Rects of many":    func(o *api.Op) { o.Rects = make([]api.Rect, 300) },
		"Format":           func(o *api.Op) { o.Format = 1 },
		"Format below":     func(o *api.Op) { o.Format = -1 },
		"Name":             func(o *api.Op) { o.Name = "x" },
		"Name of a byte 0": func(o *api.Op) { o.Name = "\x00" },
	}
}

// has says which fields a kind has.
func has(kind int, field string) bool {
	switch kind {
	case api.OSet:
		return strings.HasPrefix(field, "Row") || strings.HasPrefix(field, "Col") || strings.HasPrefix(field, "Cell")
	case api.ORow, api.OCol:
		return strings.HasPrefix(field, "Line")
	case api.OFormat:
		return strings.HasPrefix(field, "Rects") || strings.HasPrefix(field, "Format")
	case api.OAdd, api.ORename:
		return strings.HasPrefix(field, "Name")
	}
	return false
}

func TestFieldsThatAKindHasNot(t *testing.T) {
	asked := 0
	for _, o := range append(kinds(), ordinary()...) {
		for field, put := range extras() {
			if has(o.Kind, field) {
				continue
			}
			asked++
			with := o
			put(&with)
			checkMay(t, with, false)
			if Eq(o, with) || Eq(with, o) {
				t.Errorf("P10.1: Eq of %+v with %s and without", o, field)
			}
		}
	}
	if asked < 500 {
		t.Errorf("the test's own fields: only %d were asked of", asked)
	}
}

func TestBatches(t *testing.T) {
	all := ordinary()
	if !Batch() || !Batch(nil...) || !Batch([]api.Op{}...) || !Batch(all...) {
		t.Error("P10.1: Batch of none, or of all kinds, is refused")
	}
	wrong := []api.Op{{}, set(-1, 0, api.Cell{}), row(api.Line{}), format(256, rect(0, 0, 1, 1)), rename(""), {Kind: 8, Sheet: here}}
	for n := range 40 {
		l := make([]api.Op, n)
		for i := range l {
			l[i] = all[(i+n)%len(all)]
		}
		if Batch(l...) != (n <= 32) {
			t.Errorf("P10.1: Batch of %d operations is %v", n, n > 32)
		}
		for i := range l {
			was := l[i]
			l[i] = wrong[(i+n)%len(wrong)]
			if Batch(l...) {
				t.Errorf("P10.1: Batch of %d operations, of which number %d may not be", n, i)
			}
			l[i] = was
		}
	}
	if Batch(slices.Repeat([]api.Op{remove()}, 100000)...) {
		t.Error("P10.1: Batch of 100000 operations")
	}
	// What comes behind the last one of a list is not asked of.
	room := slices.Repeat([]api.Op{remove()}, 32)
	room[20] = api.Op{}
	if !Batch(room[:20]...) || Batch(room[:21]...) || !Edit(0, room[:20]...) || Edit(0, room[:21]...) {
		t.Error("P0.3: spare room counts")
	}
}

func TestClientsOfEdits(t *testing.T) {
	for client := -20; client < 40; client++ {
		for _, o := range ordinary() {
			want := client >= 0 && client <= 15 && (o.Kind != api.OAdd || a1.Owner(o.Sheet) == client)
			if Edit(client, o) != want {
				t.Errorf("P10.1: Edit of client %d of %+v is %v", client, o, !want)
			}
		}
		if Edit(client) || Edit(client, nil...) || Edit(client, []api.Op{}...) {
			t.Errorf("P10.1: Edit of client %d of nothing", client)
		}
	}
	for _, client := range []int{math.MinInt, math.MaxInt, 1 << 32, -1 << 32, 256, 1<<32 + 3} {
		if Edit(client, remove()) || Edit(client) || Edit(client, add("c3n1", "x")) {
			t.Errorf("P10.1: Edit of client %d", client)
		}
	}
}

func TestOwnersOfNewSheets(t *testing.T) {
	for client := range 16 {
		for owner := range 16 {
			id := fmt.Sprintf("c%dn%d", owner, 7*client+owner)
			own := add(id, "x")
			for _, l := range [][]api.Op{{own}, {own, remove()}, {remove(), own}, {add(fmt.Sprintf("c%dn1", client), "x"), own}, {own, add(fmt.Sprintf("c%dn1", client), "x")}} {
				if Edit(client, l...) != (owner == client) || !Batch(l...) {
					t.Errorf("P10.1: Edit of client %d that adds %s", client, id)
				}
			}
			// Of the other kinds each sheet is everybody's.
			for _, o := range ordinary() {
				o.Sheet = id
				if o.Kind != api.OAdd && !Edit(client, o) {
					t.Errorf("P10.1: Edit of client %d on the sheet %s", client, id)
				}
			}
		}
	}
}

func TestSizesOfEdits(t *testing.T) {
	for n := range 40 {
		l := slices.Repeat([]api.Op{set(1, 2, cell("x"))}, n)
		if Edit(3, l...) != (n >= 1 && n <= 32) {
			t.Errorf("P10.1: Edit of %d operations", n)
		}
		for i := range l {
			for _, wrong := range []api.Op{{}, row(ins(1<<40 + 1)), add("c4n0", "x"), rename("")} {
				l[i], wrong = wrong, l[i]
				if Edit(3, l...) {
					t.Errorf("P10.1: Edit of %d operations, of which number %d is %+v", n, i, l[i])
				}
				l[i] = wrong
			}
		}
	}
}

func TestLinesOfEdits(t *testing.T) {
	for _, n := range []int64{3, 5, 1<<40 - 1, 1 << 40, 1<<40 + 1, 1<<40 + 2, 1<<41 - 2, 1<<41 - 1} {
		want := n <= 1<<40
		for _, o := range []api.Op{
			set(n, 0, cell("x")), set(0, n, cell("x")), set(n, n, api.Cell{}), set(1<<40, n, cell("=A1")), set(n, 1<<40, cell("=A1")),
			row(ins(n)), row(del(n)), row(moved(n, 1)), row(moved(1, n)), row(moved(n, n-1)),
			col(ins(n)), col(del(n)), col(moved(n, 1)), col(moved(1, n)), col(moved(n, n-1)),
		} {
			if !May(o) || Edit(0, o) != want {
				t.Errorf("P10.1: Edit of %+v is %v", o, !want)
			}
		}
	}
	if Edit(0, row(moved(1<<40-1, 1<<40+1))) || Edit(0, row(moved(1<<40+1, 1<<40))) {
		t.Error("P10.1: Edit of moves of which one end is above 2^40")
	}
	// What a formula points at is no line of the operation.
	if !Edit(0, set(0, 0, cell("=A2199023255552"))) {
		t.Error("P10.1: Edit of a formula that points far away")
	}
}

func TestRectanglesOfEdits(t *testing.T) {
	for _, n := range []int64{1, 2, 1<<40 - 1, 1 << 40, 1<<40 + 1, 1<<40 + 2, 1<<41 - 1, 1 << 41} {
		want := n <= 1<<40
		for _, rs := range [][]api.Rect{
			{rect(n-1, 0, n, 1)}, {rect(0, n-1, 1, n)}, {rect(n-1, n-1, n, n)}, {rect(max(n-16, 0), max(n-16, 0), n, n)},
		} {
			if !May(format(3, rs...)) {
				t.Errorf("P10.1: %+v may not be", rs)
			}
			if Edit(0, format(3, rs...)) != want {
				t.Errorf("P10.1: Edit of rectangles to %d is %v", n, !want)
			}
		}
		if n > 2 {
			for _, rs := range [][]api.Rect{
				{rect(0, 0, 1, 1), rect(n-1, 0, n, 1)}, {rect(0, 0, 1, 1), rect(0, n-1, 1, n)}, {rect(0, n-1, 1, n), rect(2, 0, 3, 1)},
			} {
				if !May(format(3, rs...)) || Edit(0, format(3, rs...)) != want {
					t.Errorf("P10.1: Edit of the rectangles %+v is %v", rs, !want)
				}
			}
		}
	}
	if Edit(0, format(3, rect(1<<40, 0, 1<<40+1, 1))) || Edit(0, format(3, rect(0, 1<<40, 1, 1<<40+1))) {
		t.Error("P10.1: Edit of rectangles that end just above 2^40")
	}
}

// clone is o in memory of its own.
func clone(o api.Op) api.Op {
	o.Sheet, o.Name = strings.Clone(o.Sheet), strings.Clone(o.Name)
	o.Rects = slices.Clone(o.Rects)
	o.Cell.Value.Text = strings.Clone(o.Cell.Value.Text)
	o.Cell.Expr = cloneTree(o.Cell.Expr)
	return o
}

func cloneTree(e api.Expr) api.Expr {
	e.Text = strings.Clone(e.Text)
	e.Refs, e.Kids = slices.Clone(e.Refs), slices.Clone(e.Kids)
	for i, kid := range e.Kids {
		e.Kids[i] = cloneTree(kid)
	}
	return e
}

func TestSameOperations(t *testing.T) {
	all := append(ordinary(), api.Op{}, api.Op{Kind: -1}, api.Op{Kind: 8, Sheet: "x"})
	for _, c := range wrongCells() {
		all = append(all, set(4, 4, c))
	}
	for field, put := range extras() {
		var o api.Op
		put(&o)
		if !Eq(o, o) || Eq(o, api.Op{}) || Eq(api.Op{}, o) {
			t.Errorf("P10.1: Eq of a zero operation with %s", field)
		}
	}
	for i, a := range all {
		for k, b := range all {
			if Eq(a, b) != (i == k) {
				t.Errorf("P10.1: Eq of the operations %d and %d is %v", i, k, i != k)
			}
		}
	}
	for _, a := range ordinary() {
		if !Eq(a, clone(a)) {
			t.Errorf("P10.1: Eq of %+v and a copy of it", a)
		}
	}
}

func TestEachFieldCounts(t *testing.T) {
	full := api.Op{
		Kind: 3, Sheet: "s", Row: 5, Col: 6, Line: moved(7, 9), Rects: []api.Rect{rect(1, 2, 3, 4), rect(5, 6, 7, 8)}, Format: 10, Name: "n",
		Cell: api.Cell{Formula: true, Value: api.Value{Kind: 1, Num: 2, Text: "t", Bool: true, Err: 3}, Expr: api.Expr{Kind: 4, Num: 5, Text: "u", Bool: true, Err: 6, Refs: []api.Ref{{Sheet: "v", Row: 1, Col: 2, RowAbs: true, ColAbs: true}}, Kids: []api.Expr{{Kind: 7, Kids: []api.Expr{{Kind: 8}}}}}},
	}
	if !Eq(full, clone(full)) {
		t.Error("P10.1: Eq of a full operation and a copy of it")
	}
	for i, change := range []func(o *api.Op){
		func(o *api.Op) { o.Kind = 2 }, func(o *api.Op) { o.Sheet = "S" }, func(o *api.Op) { o.Sheet = "" }, func(o *api.Op) { o.Row = -5 }, func(o *api.Op) { o.Col = 5 }, func(o *api.Op) { o.Row, o.Col = 6, 5 },
		func(o *api.Op) { o.Line.Kind = 1 }, func(o *api.Op) { o.Line.At = 8 }, func(o *api.Op) { o.Line.To = 8 }, func(o *api.Op) { o.Format = 9 }, func(o *api.Op) { o.Name = "n " }, func(o *api.Op) { o.Name = "" },
		func(o *api.Op) { o.Rects = nil }, func(o *api.Op) { o.Rects = o.Rects[:1] }, func(o *api.Op) { o.Rects = append(o.Rects, api.Rect{}) }, func(o *api.Op) { slices.Reverse(o.Rects) },
		func(o *api.Op) { o.Rects[0].R0++ }, func(o *api.Op) { o.Rects[0].C0++ }, func(o *api.Op) { o.Rects[1].R1++ }, func(o *api.Op) { o.Rects[1].C1++ },
		func(o *api.Op) { o.Cell.Formula = false }, func(o *api.Op) { o.Cell.Value.Kind++ }, func(o *api.Op) { o.Cell.Value.Num++ }, func(o *api.Op) { o.Cell.Value.Text += "t" }, func(o *api.Op) { o.Cell.Value.Bool = false }, func(o *api.Op) { o.Cell.Value.Err++ },
		func(o *api.Op) { o.Cell.Expr.Kind++ }, func(o *api.Op) { o.Cell.Expr.Num++ }, func(o *api.Op) { o.Cell.Expr.Text += "t" }, func(o *api.Op) { o.Cell.Expr.Bool = false }, func(o *api.Op) { o.Cell.Expr.Err++ },
		func(o *api.Op) { o.Cell.Expr.Refs = nil }, func(o *api.Op) { o.Cell.Expr.Refs[0].Sheet = "" }, func(o *api.Op) { o.Cell.Expr.Refs[0].Row++ }, func(o *api.Op) { o.Cell.Expr.Refs[0].Col++ }, func(o *api.Op) { o.Cell.Expr.Refs[0].RowAbs = false }, func(o *api.Op) { o.Cell.Expr.Refs[0].ColAbs = false },
		func(o *api.Op) { o.Cell.Expr.Kids = nil }, func(o *api.Op) { o.Cell.Expr.Kids[0].Kind++ }, func(o *api.Op) { o.Cell.Expr.Kids[0].Kids[0].Kind++ },
	} {
		other := clone(full)
		change(&other)
		if Eq(full, other) || Eq(other, full) || !Eq(other, other) {
			t.Errorf("P10.1: Eq of operations that differ by change %d", i)
		}
	}
	// The same cells in other rectangles are other fields.
	if Eq(format(1, rect(0, 0, 1, 2)), format(1, rect(0, 0, 1, 1), rect(0, 1, 1, 2))) {
		t.Error("P10.1: Eq of other rectangles")
	}
}

func TestNilLists(t *testing.T) {
	for _, o := range ordinary() {
		with := clone(o)
		if len(with.Rects) == 0 {
			with.Rects = make([]api.Rect, 0, 3)
		}
		if len(with.Cell.Expr.Refs) == 0 {
			with.Cell.Expr.Refs = make([]api.Ref, 0, 3)
		}
		if len(with.Cell.Expr.Kids) == 0 {
			with.Cell.Expr.Kids = make([]api.Expr, 0, 3)
		}
		if !Eq(o, with) || !Eq(with, o) || May(o) != May(with) {
			t.Errorf("P0.4: empty lists of %+v are not the same as nil ones", o)
		}
	}
}

// full is l with spare room behind them that is full of marks.
func full[T any](l []T, mark T) []T {
	room := append(slices.Clone(l), mark, mark)
	return room[:len(l)]
}

func TestListsStayAsTheyAre(t *testing.T) {
	tell := func(os []api.Op) string {
		s := ""
		for _, o := range os[:cap(os)] {
			s += fmt.Sprintf("%+v %+v %+v;", o, o.Rects[:cap(o.Rects)], o.Cell.Expr.Kids[:cap(o.Cell.Expr.Kids)])
		}
		return s
	}
	var os []api.Op
	for _, o := range append(ordinary(), format(1, rect(3, 3, 4, 4), rect(0, 0, 1, 1), rect(0, 0, 9, 9))) {
		o = clone(o)
		o.Rects = full(o.Rects, rect(9, 8, 7, 6))
		o.Cell.Expr.Kids = full(o.Cell.Expr.Kids, api.Expr{Kind: 99})
		os = append(os, o)
	}
	os = full(os, api.Op{Kind: 99})
	before := tell(os)
	first := fmt.Sprint(Batch(os...), Edit(0, os...), Batch(os[:20]...), Edit(0, os[:20]...))
	for _, o := range os {
		May(o)
		Eq(o, o)
	}
	if tell(os) != before {
		t.Error("P0.3: a list that is handed in is changed")
	}
	if again := fmt.Sprint(Batch(os...), Edit(0, os...), Batch(os[:20]...), Edit(0, os[:20]...)); again != first || first != "false false true true" {
		t.Errorf("P0.5: %s, then %s", first, again)
	}
}

// Trees that stand within themselves, or have more nodes than can be gone through.
func TestTreesWithoutEnd(t *testing.T) {
	loop := func() api.Expr {
		l := []api.Expr{{Kind: api.XRef, Refs: []api.Ref{{}}}, {Kind: api.XBin, Text: "+"}}
		l[1].Kids = l
		return l[1]
	}
	great := func() api.Expr {
		e := api.Expr{Kind: api.XNum}
		for range 1000 {
			e = api.Expr{Kind: api.XBin, Text: "+", Kids: []api.Expr{e, e}}
		}
		return e
	}
	for _, tree := range []func() api.Expr{loop, great} {
		for _, o := range ordinary() {
			o.Cell.Expr = tree()
			for _, formula := range []bool{false, true} {
				o.Cell.Formula = formula
				if May(o) || Batch(o) || Edit(0, o) {
					t.Error("P10.1: an operation with a tree without end may be")
				}
			}
			other := o
			other.Cell.Expr = tree()
			if !Eq(o, other) {
				t.Error("P10.1: Eq of operations with the same trees without end")
			}
			other.Cell.Expr = api.Expr{Kind: api.XBin, Text: "+", Kids: []api.Expr{{}, {}}}
			if Eq(o, other) || Eq(other, o) {
				t.Error("P10.1: Eq of operations with other trees")
			}
		}
	}
}
