package opcode

import (
	"bytes"
	"fmt"
	"math"
	"slices"
	"strings"
	"testing"

	"counterpane/api"
	"counterpane/op"
	"counterpane/show"
)

const (
	here = "c0n0"
	far  = "c15n999999"
	last = 1<<41 - 1
)

// The operations that tests write.

func set(row, col int64, c api.Cell) api.Op {
	return api.Op{Kind: api.OSet, Sheet: here, Row: row, Col: col, Cell: c}
}
func row(l api.Line) api.Op { return api.Op{Kind: api.ORow, Sheet: here, Line: l} }
func col(l api.Line) api.Op { return api.Op{Kind: api.OCol, Sheet: here, Line: l} }

func format(n int, rs ...api.Rect) api.Op {
	return api.Op{Kind: api.OFormat, Sheet: here, Rects: slices.Clone(rs), Format: n}
}
func add(id, name string) api.Op    { return api.Op{Kind: api.OAdd, Sheet: id, Name: name} }
func rename(id, name string) api.Op { return api.Op{Kind: api.ORename, Sheet: id, Name: name} }
func remove(id string) api.Op       { return api.Op{Kind: api.ORemove, Sheet: id} }

func ins(at int64) api.Line       { return api.Line{Kind: api.LIns, At: at} }
func del(at int64) api.Line       { return api.Line{Kind: api.LDel, At: at} }
func moved(at, to int64) api.Line { return api.Line{Kind: api.LMove, At: at, To: to} }

func rect(r0, c0, r1, c1 int64) api.Rect { return api.Rect{R0: r0, C0: c0, R1: r1, C1: c1} }

// The cells that tests write.

func number(n api.Fix) api.Cell   { return api.Cell{Value: api.Value{Kind: api.VNumber, Num: n}} }
func text(s string) api.Cell      { return api.Cell{Value: api.Value{Kind: api.VText, Text: s}} }
func truth(b bool) api.Cell       { return api.Cell{Value: api.Value{Kind: api.VBool, Bool: b}} }
func fault(err int) api.Cell      { return api.Cell{Value: api.Value{Kind: api.VError, Err: err}} }
func tree(e api.Expr) api.Cell    { return api.Cell{Formula: true, Expr: e} }
func num(n api.Fix) api.Expr      { return api.Expr{Kind: api.XNum, Num: n} }
func str(s string) api.Expr       { return api.Expr{Kind: api.XText, Text: s} }
func yes(b bool) api.Expr         { return api.Expr{Kind: api.XBool, Bool: b} }
func wrong(err int) api.Expr      { return api.Expr{Kind: api.XErr, Err: err} }
func ref(r api.Ref) api.Expr      { return api.Expr{Kind: api.XRef, Refs: []api.Ref{r}} }
func area(a, b api.Ref) api.Expr  { return api.Expr{Kind: api.XRange, Refs: []api.Ref{a, b}} }
func neg(e api.Expr) api.Expr     { return api.Expr{Kind: api.XNeg, Kids: []api.Expr{e}} }
func rowRef(n int64) api.Expr     { return ref(api.Ref{Row: n}) }
func colRef(n int64) api.Expr     { return ref(api.Ref{Col: n}) }
func on(s string, n int) api.Expr { return ref(api.Ref{Sheet: s, RowAbs: n&1 != 0, ColAbs: n&2 != 0}) }

func bin(a api.Expr, operator string, b api.Expr) api.Expr {
	return api.Expr{Kind: api.XBin, Text: operator, Kids: []api.Expr{a, b}}
}

func call(name string, kids ...api.Expr) api.Expr {
	return api.Expr{Kind: api.XCall, Text: name, Kids: slices.Clone(kids)}
}

// cell is what one gets who writes s.
func cell(s string) api.Cell {
	c, err := show.Read(s)
	if err != api.OK {
		panic("the test's own cell " + s + " is none")
	}
	return c
}

var operators = []string{"=", "<>", "<", "<=", ">", ">=", "&", "+", "-", "*", "/"}

// numbers are those at whose bytes something may change, from 0 on.
func numbers() []int64 {
	l := []int64{0, 1, 2, 3, 126, 127, 128, 129, 255, 256, 16383, 16384, 16385, math.MaxInt64 - 1, math.MaxInt64}
	for bits := 15; bits < 63; bits++ {
		l = append(l, 1<<bits-1, 1<<bits, 1<<bits+1)
	}
	slices.Sort(l)
	return slices.Compact(l)
}

// lines are those of numbers that a line may have.
func lines() []int64 {
	return slices.DeleteFunc(numbers(), func(n int64) bool { return n > last })
}

// texts are some that differ in little.
func texts() []string {
	return []string{"", "a", "b", "A", "aa", "a\x00", "\x00", "\x01", "\x00\x00", "é", "é́", "\x7f", "\u0080", "\uffff", "\U0010ffff", "=A1", "'", strings.Repeat("a", 127), strings.Repeat("a", 128), strings.Repeat("a", 129), strings.Repeat("a", 199), strings.Repeat("a", 200), strings.Repeat("é", 100), strings.Repeat("\U0010ffff", 50), strings.Repeat("\x00", 200)}
}

// names are some that differ in little.
func names() []string {
	return []string{" ", "a", "b", "A", "~", "aa", "ab", "a ", " a", "Sheet", "=A1", strings.Repeat("~", 19), strings.Repeat("~", 20), strings.Repeat(" ", 20)}
}

func ids() []string {
	return []string{here, far, "c0n1", "c1n0", "c1n1", "c10n0", "c1n10", "c0n999999", "c15n0"}
}

// leaves are trees of one node, each other than the others.
func leaves() []api.Expr {
	l := []api.Expr{yes(false), yes(true), call("F"), call("G"), call("FF"), call("ABCDEFGHIJKLMNOPQRST")}
	for _, n := range numbers() {
		l = append(l, num(api.Fix(n)))
	}
	for _, s := range texts() {
		l = append(l, str(s))
	}
	for err := api.ERef; err <= api.ENone; err++ {
		l = append(l, wrong(err))
	}
	for _, n := range lines() {
		if n > 0 {
			l = append(l, rowRef(n), colRef(n), area(api.Ref{Row: n}, api.Ref{}), area(api.Ref{}, api.Ref{Row: n}), area(api.Ref{Col: n}, api.Ref{}), area(api.Ref{}, api.Ref{Col: n}))
		}
	}
	for n := range 4 {
		l = append(l, on("", n))
		for _, id := range ids() {
			l = append(l, on(id, n), area(api.Ref{Sheet: id, RowAbs: n&1 != 0, ColAbs: n&2 != 0}, api.Ref{}))
		}
		for m := range 4 {
			l = append(l, area(api.Ref{RowAbs: n&1 != 0, ColAbs: n&2 != 0}, api.Ref{RowAbs: m&1 != 0, ColAbs: m&2 != 0}))
		}
	}
	return append(l, ref(api.Ref{Sheet: far, Row: last, Col: last, RowAbs: true, ColAbs: true}), area(api.Ref{Sheet: far, Row: last, Col: last}, api.Ref{Row: last, Col: last, RowAbs: true, ColAbs: true}))
}

// deep is a tree that is n deep, by one kid a node.
func deep(n int) api.Expr {
	e := num(0)
	for range n - 1 {
		e = neg(e)
	}
	return e
}

// many is a tree of n nodes, not deep.
func many(n int, leaf api.Expr) api.Expr {
	var top []api.Expr
	for left := n - 1; left > 0; {
		kids := min(30, left-1)
		top = append(top, call("F", slices.Repeat([]api.Expr{leaf}, kids)...))
		left -= kids + 1
	}
	return call("F", top...)
}

// trees are formulas of each kind of node, each other than the others.
func trees() []api.Expr {
	l := leaves()
	a, b := num(1), num(2)
	for _, operator := range operators {
		l = append(l, bin(a, operator, b), bin(b, operator, a), bin(bin(a, operator, b), operator, a), bin(a, operator, bin(b, operator, a)), neg(bin(a, operator, b)))
	}
	l = append(l, neg(a), neg(neg(a)), neg(b), deep(50), deep(49), bin(deep(49), "+", a), bin(a, "+", deep(49)), call("F", deep(49)), call("F", a, deep(49)))
	for n := 1; n <= 30; n++ {
		l = append(l, call("F", slices.Repeat([]api.Expr{a}, n)...))
	}
	return append(l, call("F", a, b), call("F", b, a), call("F", call("F"), call("F")), call("F", call("F", call("F"))), call("F", call("F"), a), call("F", call("F", a)), call("TRUEX", a), many(199, a), many(200, a), many(200, str(strings.Repeat("x", 200))), many(200, area(api.Ref{Sheet: far, Row: last, Col: last}, api.Ref{Row: last, Col: last})))
}

// cells are of each kind, each other than the others.
func cells() []api.Cell {
	l := []api.Cell{{}, truth(false), truth(true), number(math.MinInt64)}
	for _, n := range numbers() {
		l = append(l, number(api.Fix(n)))
		if n > 0 {
			l = append(l, number(-api.Fix(n)))
		}
	}
	for _, s := range texts() {
		l = append(l, text(s))
	}
	for err := api.ERef; err <= api.ENone; err++ {
		l = append(l, fault(err))
	}
	for _, e := range trees() {
		l = append(l, tree(e))
	}
	return l
}

// spots are n cells apart from one another, in normal form.
func spots(n int64) []api.Rect {
	var l []api.Rect
	for i := range n {
		l = append(l, rect(i, 2*(i%7), i+1, 2*(i%7)+1))
	}
	return l
}

// lineOps are operations on lines, each other than the others.
func lineOps() []api.Line {
	l := []api.Line{moved(0, last), moved(last, 0), moved(last-2, last), moved(5, 3), moved(3, 5), moved(3, 6), moved(3, 2)}
	for _, n := range lines() {
		l = append(l, ins(n), del(n))
		if n > 2 && n < last {
			l = append(l, moved(n, 1), moved(1, n))
		}
	}
	return l
}

// ops are of each kind, each other than the others.
func ops() []api.Op {
	l := []api.Op{
		format(0, rect(0, 0, 16, 16)), format(9, rect(0, 0, 1, 1), rect(2, 0, 3, 1)), format(9, rect(0, 0, 1, 1), rect(0, 2, 1, 3)), format(9, spots(255)...), format(9, spots(256)...),
		format(9, rect(0, 0, 2, 1)), format(9, rect(0, 0, 1, 2)), format(9, rect(1, 0, 2, 1)), format(9, rect(0, 1, 1, 2)), format(9, rect(last-15, last-15, last+1, last+1)), format(9, rect(0, 0, 1, 256)), format(9, rect(0, 0, 256, 1)),
	}
	for n := range 256 {
		l = append(l, format(n, rect(0, 0, 1, 1)))
	}
	for _, n := range lines() {
		l = append(l, format(1, rect(n, 3, n+1, 5)), format(1, rect(3, n, 5, n+1)), set(n, 1, api.Cell{}), set(1, n, cell("=A1")))
	}
	for _, c := range cells() {
		l = append(l, set(3, 4, c))
	}
	for _, line := range lineOps() {
		l = append(l, row(line), col(line))
	}
	for _, id := range ids() {
		l = append(l, remove(id))
		for _, name := range names() {
			l = append(l, add(id, name), rename(id, name))
		}
	}
	for _, o := range []api.Op{set(0, 0, api.Cell{}), row(ins(0)), col(del(9)), format(1, rect(0, 0, 5, 5))} {
		for _, id := range ids()[1:] {
			o.Sheet = id
			l = append(l, o)
		}
	}
	slices.SortFunc(l, func(a, b api.Op) int { return strings.Compare(tell(a), tell(b)) })
	return slices.CompactFunc(l, func(a, b api.Op) bool { return tell(a) == tell(b) })
}

// ordinary are few operations of each kind.
func ordinary() []api.Op {
	return []api.Op{
		set(0, 0, api.Cell{}), set(0, 300, cell("12.5")), set(3, 7, cell("-0.0001")), set(3, 7, cell("x")), set(3, 7, cell("TRUE")), set(3, 7, cell("#REF!")), set(3, 7, cell("'")),
		set(7, 3, cell("=A1+SUM(c1n2!$B2:C$3,200)*-2")), set(9, 9, cell(`="x"&TRUE<>#N/A`)), set(9, 9, cell("=F()/c3n4!$A$70000")),
		row(ins(0)), row(del(500)), row(moved(5, 0)), col(ins(5)), col(del(0)), col(moved(0, 200)),
		format(0, rect(0, 0, 1, 1)), format(255, rect(2, 3, 4, 9)), format(7, rect(0, 0, 1, 2), rect(2, 1, 3, 3), rect(2, 4, 3, 5)),
		add(here, "Sheet"), add(far, "a b"), rename("c3n17", "~"), remove(far),
	}
}

// tell writes an operation with all its fields, those of other kinds too.
func tell(o api.Op) string {
	return fmt.Sprintf("%+v", o)
}

func tellAll(os []api.Op) string {
	s := fmt.Sprint(len(os))
	for _, o := range os {
		s += "\n" + tell(o)
	}
	return s
}

func tellCell(c api.Cell) string {
	return fmt.Sprintf("%+v", c)
}

// encode is of a batch that may be.
func encode(t testing.TB, os ...api.Op) []byte {
	t.Helper()
	b, err := Encode(os...)
	if err != api.OK || len(b) == 0 {
		t.Fatalf("P11.1: Encode of %.300s: %d bytes, %d", tellAll(os), len(b), err)
	}
	return b
}

// encodeCell is of a cell that may be.
func encodeCell(t testing.TB, c api.Cell) []byte {
	t.Helper()
	b, err := Cell(c)
	if err != api.OK || len(b) == 0 {
		t.Fatalf("P11.1: Cell of %.300s: %d bytes, %d", tellCell(c), len(b), err)
	}
	return b
}

func checkBatch(t *testing.T, os ...api.Op) {
	t.Helper()
	got, err := Decode(encode(t, os...))
	if err != api.OK || tellAll(got) != tellAll(os) {
		t.Fatalf("P11.1: Decode is %.300s, %d, not %.300s", tellAll(got), err, tellAll(os))
	}
	for i := range os {
		if !op.Eq(got[i], os[i]) {
			t.Errorf("P11.1: Decode gives another operation %d of %.300s", i, tellAll(os))
		}
	}
}

// checkNoBatch is of operations that are no batch.
func checkNoBatch(t *testing.T, os ...api.Op) {
	t.Helper()
	if b, err := Encode(os...); err != api.ErrBatch || b != nil {
		t.Errorf("P11.1, P0.2: Encode of %d that may not be: %d bytes, %d", len(os), len(b), err)
	}
}

func checkCell(t *testing.T, c api.Cell) {
	t.Helper()
	b := encodeCell(t, c)
	for _, behind := range []string{"", "\x00", "\x01", "\x7f", "\x80", "\xff\xff\xff", string(b), "any text that is longer"} {
		got, n, err := ReadCell([]byte(string(b) + behind))
		if err != api.OK || n != len(b) || tellCell(got) != tellCell(c) {
			t.Fatalf("P11.1: ReadCell with %q behind: %.300s, %d, %d, not %.300s, %d", behind, tellCell(got), n, err, tellCell(c), len(b))
		}
	}
}

func TestOrdinaryBatches(t *testing.T) {
	all := ordinary()
	for i, a := range all {
		checkBatch(t, a)
		for _, b := range all {
			checkBatch(t, a, b)
		}
		checkBatch(t, all[i:]...)
		checkBatch(t, all[:i]...)
	}
	slices.Reverse(all)
	checkBatch(t, all...)
}

func TestBatchesOfEachKind(t *testing.T) {
	l := ops()
	if len(l) < 2000 {
		t.Errorf("the test's own operations: only %d", len(l))
	}
	for _, o := range l {
		checkBatch(t, o)
	}
	for some := range slices.Chunk(l, api.MaxOps) {
		checkBatch(t, some...)
	}
}

func TestLengthsOfBatches(t *testing.T) {
	checkBatch(t)
	for _, o := range ordinary() {
		for n := range 100 {
			if n <= 32 {
				checkBatch(t, slices.Repeat([]api.Op{o}, n)...)
			} else {
				checkNoBatch(t, slices.Repeat([]api.Op{o}, n)...)
			}
		}
	}
	checkNoBatch(t, make([]api.Op, 1<<16)...)
}

// A record of the log has to have room for each batch.
func TestGreatestBatch(t *testing.T) {
	great := set(last, last, tree(many(200, str(strings.Repeat("\U0010ffff", 50)))))
	great.Sheet = far
	checkBatch(t, slices.Repeat([]api.Op{great}, 32)...)
	if n := len(encode(t, slices.Repeat([]api.Op{great}, 32)...)); n > api.MaxFrame/2 {
		t.Errorf("the greatest batch has %d bytes", n)
	}
	wide := spots(256)
	for i := range wide {
		wide[i].R0 += last - 300
		wide[i].R1 += last - 300
		wide[i].C0 += last - 300
		wide[i].C1 += last - 300
	}
	checkBatch(t, slices.Repeat([]api.Op{format(255, wide...)}, 32)...)
}

func TestCells(t *testing.T) {
	for _, c := range cells() {
		checkCell(t, c)
	}
}

func TestOtherThingsHaveOtherBytes(t *testing.T) {
	known := map[string]string{}
	keep := func(b []byte, what string) {
		if other, ok := known[string(b)]; ok && other != what {
			t.Errorf("P11.1: the same bytes of %.300s and %.300s", what, other)
		}
		known[string(b)] = what
	}
	all := ops()
	for _, o := range all {
		keep(encode(t, o), tellAll([]api.Op{o}))
		keep(encode(t, o, o), tellAll([]api.Op{o, o}))
	}
	some := ordinary()
	for i := range some {
		for k := range some {
			keep(encode(t, some[i], some[k]), tellAll([]api.Op{some[i], some[k]}))
		}
		keep(encode(t, some[:i]...), tellAll(some[:i]))
		keep(encode(t, some[i:]...), tellAll(some[i:]))
	}
	if len(known) < 2*len(all) {
		t.Errorf("P11.1: only %d different bytes", len(known))
	}
}

// Each field of a batch, changed alone, changes the bytes, and comes back.
func TestEachFieldIsWritten(t *testing.T) {
	bases := []api.Op{
		set(5, 6, number(7)), set(5, 6, text("t")), set(5, 6, truth(true)), set(5, 6, fault(3)), set(5, 6, tree(bin(num(1), "+", on(far, 3)))), set(5, 6, tree(call("F", str("x"), yes(true), wrong(4), neg(area(api.Ref{Sheet: "c1n1", Row: 1, Col: 2, RowAbs: true}, api.Ref{Row: 3, Col: 4, ColAbs: true}))))),
		row(moved(7, 9)), col(moved(7, 9)), row(ins(7)), col(del(7)), format(10, rect(1, 2, 3, 4), rect(5, 6, 7, 8)), add("c2n2", "n"), rename("c2n2", "n"), remove("c2n2"),
	}
	first := func(o *api.Op) *api.Expr { return &o.Cell.Expr }
	kid := func(o *api.Op, is ...int) *api.Expr {
		e := first(o)
		for _, i := range is {
			if i >= len(e.Kids) {
				return &api.Expr{Refs: make([]api.Ref, 2)}
			}
			e = &e.Kids[i]
		}
		if len(e.Refs) == 0 {
			e = &api.Expr{Refs: make([]api.Ref, 2)}
		}
		return e
	}
	changes := []func(o *api.Op){
		func(o *api.Op) { o.Kind++ }, func(o *api.Op) { o.Kind-- }, func(o *api.Op) { o.Sheet = "c0n7" }, func(o *api.Op) { o.Sheet = "c7n0" }, func(o *api.Op) { o.Row++ }, func(o *api.Op) { o.Col++ }, func(o *api.Op) { o.Row, o.Col = o.Col, o.Row },
		func(o *api.Op) { o.Line.Kind-- }, func(o *api.Op) { o.Line.Kind++ }, func(o *api.Op) { o.Line.At-- }, func(o *api.Op) { o.Line.To++ }, func(o *api.Op) { o.Line.At, o.Line.To = o.Line.To, o.Line.At }, func(o *api.Op) { o.Format++ }, func(o *api.Op) { o.Name += "n" }, func(o *api.Op) { o.Name = "N" },
		func(o *api.Op) { o.Rects = o.Rects[:len(o.Rects)/2] }, func(o *api.Op) { o.Rects = append(o.Rects, rect(9, 9, 10, 10)) },
		func(o *api.Op) { o.Cell.Value.Num++ }, func(o *api.Op) { o.Cell.Value.Num = -o.Cell.Value.Num }, func(o *api.Op) { o.Cell.Value.Text += "t" }, func(o *api.Op) { o.Cell.Value.Text = "T" }, func(o *api.Op) { o.Cell.Value.Bool = !o.Cell.Value.Bool }, func(o *api.Op) { o.Cell.Value.Err++ },
		func(o *api.Op) { o.Cell = api.Cell{} }, func(o *api.Op) { o.Cell.Expr.Text = "-" }, func(o *api.Op) { o.Cell.Expr.Text = "G" }, func(o *api.Op) { slices.Reverse(o.Cell.Expr.Kids) },
		func(o *api.Op) { kid(o, 1).Refs[0].Sheet = "" }, func(o *api.Op) { kid(o, 1).Refs[0].Row++ }, func(o *api.Op) { kid(o, 1).Refs[0].Col++ }, func(o *api.Op) { kid(o, 1).Refs[0].RowAbs = false }, func(o *api.Op) { kid(o, 1).Refs[0].ColAbs = false },
		func(o *api.Op) { kid(o, 3, 0).Refs[0].Sheet = far }, func(o *api.Op) { kid(o, 3, 0).Refs[0].RowAbs = false }, func(o *api.Op) { kid(o, 3, 0).Refs[0].ColAbs = true }, func(o *api.Op) { slices.Reverse(kid(o, 3, 0).Refs) }, func(o *api.Op) { kid(o, 3, 0).Refs[1].Row++ }, func(o *api.Op) { kid(o, 3, 0).Refs[1].Col++ }, func(o *api.Op) { kid(o, 3, 0).Refs[1].RowAbs = true }, func(o *api.Op) { kid(o, 3, 0).Refs[1].ColAbs = false },
		func(o *api.Op) { o.Cell.Expr.Kids = o.Cell.Expr.Kids[:len(o.Cell.Expr.Kids)/2] },
	}
	for i := range 2 {
		changes = append(changes, func(o *api.Op) { o.Rects[i].R0-- }, func(o *api.Op) { o.Rects[i].C0-- }, func(o *api.Op) { o.Rects[i].R1++ }, func(o *api.Op) { o.Rects[i].C1++ })
	}
	differ := 0
	for _, base := range bases {
		b := encode(t, remove(here), base, remove(far))
		for i, change := range changes {
			other := clone(base)
			if i >= len(changes)-8 && len(other.Rects) < 2 {
				continue
			}
			change(&other)
			if !op.May(other) || tell(other) == tell(base) {
				continue
			}
			differ++
			checkBatch(t, remove(here), other, remove(far))
			if bytes.Equal(b, encode(t, remove(here), other, remove(far))) {
				t.Errorf("P11.1: change %d of %.300s is not in the bytes", i, tell(base))
			}
		}
	}
	if differ < 80 {
		t.Errorf("the test's own changes: only %d", differ)
	}
}

// No bytes of a cell are a front of another one's.
func TestFrontsOfCells(t *testing.T) {
	var all []string
	d := dice(11)
	for _, c := range append(cells(), d.cells(3000)...) {
		all = append(all, string(encodeCell(t, c)))
	}
	slices.Sort(all)
	all = slices.Compact(all)
	// What begins with s stands just behind it.
	for i := range len(all) - 1 {
		if strings.HasPrefix(all[i+1], all[i]) {
			t.Errorf("P11.1: the bytes of a cell %.100q are a front of %.100q", all[i], all[i+1])
		}
	}
}

type dice uint64

func (d *dice) throw(n int) int {
	*d = *d*6364136223846793005 + 1442695040888963407
	return int(uint64(*d) >> 33 % uint64(n))
}

// number is one of any length in bits, from 0 on and below 2^most.
func (d *dice) number(most int) int64 {
	n := int64(d.throw(1<<30))<<32 | int64(d.throw(1<<30))<<2 | int64(d.throw(4))
	return n >> (62 - d.throw(most+1))
}

func (d *dice) text() string {
	s := ""
	for range d.throw(12) {
		s += string(rune(d.throw(1 << (5 + d.throw(10)))))
	}
	return strings.ToValidUTF8(s, "?")
}

func (d *dice) id() string {
	return fmt.Sprintf("c%dn%d", d.throw(16), d.throw(1000000))
}

func (d *dice) ref() api.Ref {
	r := api.Ref{Row: d.number(41), Col: d.number(41), RowAbs: d.throw(2) == 0, ColAbs: d.throw(2) == 0}
	if d.throw(2) == 0 {
		r.Sheet = d.id()
	}
	return r
}

func (d *dice) leaf() api.Expr {
	switch d.throw(6) {
	case 0:
		return num(api.Fix(d.number(62)))
	case 1:
		return str(d.text())
	case 2:
		return yes(d.throw(2) == 0)
	case 3:
		return wrong(1 + d.throw(7))
	case 4:
		return ref(d.ref())
	}
	end := d.ref()
	end.Sheet = ""
	return area(d.ref(), end)
}

// tree is at most most deep, and of at most 3^most nodes.
func (d *dice) tree(most int) api.Expr {
	if most == 1 {
		return d.leaf()
	}
	switch d.throw(4) {
	case 0:
		return neg(d.tree(most - 1))
	case 1:
		return bin(d.tree(most-1), operators[d.throw(len(operators))], d.tree(most-1))
	case 2:
		var kids []api.Expr
		for range d.throw(3) {
			kids = append(kids, d.tree(most-1))
		}
		return call([]string{"F", "SUM", "ABCDEFGHIJKLMNOPQRST"}[d.throw(3)], kids...)
	}
	return d.leaf()
}

func (d *dice) cell() api.Cell {
	switch d.throw(6) {
	case 0:
		return number(api.Fix(d.number(62)))
	case 1:
		return number(-api.Fix(d.number(62)))
	case 2:
		return text(d.text())
	}
	return tree(d.tree(1 + d.throw(5)))
}

func (d *dice) cells(n int) []api.Cell {
	var l []api.Cell
	for range n {
		l = append(l, d.cell())
	}
	return l
}

func (d *dice) op() api.Op {
	switch d.throw(8) {
	case 0:
		return row(ins(d.number(41)))
	case 1:
		return col(del(d.number(41)))
	case 2:
		at := d.number(40)
		return row(moved(at, at+2+d.number(39)))
	case 3:
		r, c := d.number(40), d.number(40)
		return format(d.throw(256), rect(r, c, r+1+int64(d.throw(16)), c+1+int64(d.throw(16))))
	case 4:
		o := add(d.id(), names()[d.throw(len(names()))])
		o.Kind += d.throw(2)
		return o
	case 5:
		return remove(d.id())
	}
	o := set(d.number(41), d.number(41), d.cell())
	o.Sheet = d.id()
	return o
}

func (d *dice) batch() []api.Op {
	var os []api.Op
	for range d.throw(6) {
		os = append(os, d.op())
	}
	return os
}

func TestManyBatchesAndCells(t *testing.T) {
	d := dice(1)
	for range 5000 {
		checkBatch(t, d.batch()...)
		checkCell(t, d.cell())
	}
}

// clone is o in memory of its own.
func clone(o api.Op) api.Op {
	o.Sheet, o.Name = strings.Clone(o.Sheet), strings.Clone(o.Name)
	o.Rects = slices.Clone(o.Rects)
	o.Cell.Value.Text = strings.Clone(o.Cell.Value.Text)
	o.Cell.Expr = cloneTree(o.Cell.Expr)
	return o
}

func cloneTree(e api.Expr) api.Expr {
	e.Text = strings.Clone(e.Text)
	e.Refs, e.Kids = slices.Clone(e.Refs), slices.Clone(e.Kids)
	for i, kid := range e.Kids {
		e.Kids[i] = cloneTree(kid)
	}
	return e
}

func TestNilLists(t *testing.T) {
	if a, b := encode(t), encode(t, []api.Op{}...); !bytes.Equal(a, b) {
		t.Error("P0.4: Encode of nil and of an empty list")
	}
	for _, o := range ordinary() {
		with := clone(o)
		if len(with.Rects) == 0 {
			with.Rects = make([]api.Rect, 0, 3)
		}
		if len(with.Cell.Expr.Refs) == 0 {
			with.Cell.Expr.Refs = make([]api.Ref, 0, 3)
		}
		if len(with.Cell.Expr.Kids) == 0 {
			with.Cell.Expr.Kids = make([]api.Expr, 0, 3)
		}
		if !bytes.Equal(encode(t, o), encode(t, with)) || !bytes.Equal(encodeCell(t, o.Cell), encodeCell(t, with.Cell)) {
			t.Errorf("P0.4: empty lists of %+v are not the same as nil ones", o)
		}
	}
	for _, none := range [][]byte{nil, {}} {
		if os, err := Decode(none); os != nil || err != api.ErrBytes {
			t.Errorf("P11.1: Decode of no bytes: %d, %d", len(os), err)
		}
		if c, n, err := ReadCell(none); tellCell(c) != tellCell(api.Cell{}) || n != 0 || err != api.ErrBytes {
			t.Errorf("P11.1: ReadCell of no bytes: %+v, %d, %d", c, n, err)
		}
	}
}
