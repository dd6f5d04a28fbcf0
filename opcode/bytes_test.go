package opcode

import (
	"bytes"
	"math"
	"slices"
	"strings"
	"testing"

	"counterpane/api"
	"counterpane/op"
	"counterpane/show"
)

// checkBytes is of any bytes: what Decode takes Encode gives again.
func checkBytes(t *testing.T, b []byte) bool {
	t.Helper()
	os, err := Decode(b)
	if err != api.OK {
		if err != api.ErrBytes || os != nil {
			t.Errorf("P11.1, P0.2: Decode(%.100q) is refused with %d, and %d operations", b, err, len(os))
		}
		return false
	}
	again, err := Encode(os...)
	if err != api.OK || !bytes.Equal(again, b) || !op.Batch(os...) {
		t.Errorf("P11.1: Decode takes %.100q, of which Encode gives %.100q, %d", b, again, err)
	}
	return true
}

// checkCellBytes is of any bytes: what ReadCell takes Cell gives again.
func checkCellBytes(t *testing.T, b []byte) bool {
	t.Helper()
	c, n, err := ReadCell(b)
	if err != api.OK {
		if err != api.ErrBytes || n != 0 || !isZero(c) {
			t.Errorf("P11.1, P0.2: ReadCell(%.100q) is refused with %d, %d and %+v", b, err, n, c)
		}
		return false
	}
	again, err := Cell(c)
	if err != api.OK || n > len(b) || !bytes.Equal(again, b[:n]) || !show.May(c) {
		t.Errorf("P11.1: ReadCell takes %d of %.100q, of which Cell gives %.100q, %d", n, b, again, err)
	}
	return true
}

// isZero takes a nil list alone for a zero one.
func isZero(c api.Cell) bool {
	e := c.Expr
	return !c.Formula && c.Value == api.Value{} && e.Kind == 0 && e.Num == 0 && e.Text == "" && !e.Bool && e.Err == 0 && e.Refs == nil && e.Kids == nil
}

// checkNone is of bytes of no batch.
func checkNone(t *testing.T, b []byte, what string) {
	t.Helper()
	if checkBytes(t, b) {
		t.Errorf("P11.1: Decode takes %.100q: %s", b, what)
	}
}

// checkNoCell is of bytes that begin with no cell.
func checkNoCell(t *testing.T, b []byte, what string) {
	t.Helper()
	if checkCellBytes(t, b) {
		t.Errorf("P11.1: ReadCell takes %.100q: %s", b, what)
	}
}

// samples are batches with all that there is in bytes.
func samples() [][]api.Op {
	all := ordinary()
	l := [][]api.Op{nil, all[:10], all[10:20], all[20:], {format(9, spots(20)...)}, {set(last, last, text(strings.Repeat("é", 100)))}}
	for _, o := range all {
		l = append(l, []api.Op{o}, []api.Op{o, o})
	}
	return l
}

func TestBytesCut(t *testing.T) {
	for _, os := range samples() {
		b := encode(t, os...)
		for i := range b {
			checkNone(t, b[:i], "cut")
			checkNone(t, b[:i:i], "cut")
		}
	}
	for _, c := range cells() {
		b := encodeCell(t, c)
		for i := 0; i < len(b); i += 1 + len(b)/300 {
			checkNoCell(t, b[:i], "cut")
		}
		checkNoCell(t, b[:len(b)-1], "cut")
	}
}

func TestBytesBehind(t *testing.T) {
	for _, os := range samples() {
		b := encode(t, os...)
		for n := range 256 {
			checkNone(t, append(slices.Clone(b), byte(n)), "a byte behind")
		}
		checkNone(t, append(slices.Clone(b), b...), "twice")
		checkNone(t, append(slices.Clone(b), make([]byte, 1000)...), "noughts behind")
		for _, o := range ordinary() {
			checkNone(t, append(slices.Clone(b), encode(t, o)[1:]...), "an operation that is not counted")
		}
	}
}

func TestBytesChanged(t *testing.T) {
	taken := 0
	for _, os := range samples() {
		b := encode(t, os...)
		for i := range b {
			for n := range 256 {
				x := slices.Clone(b)
				x[i] = byte(n)
				if checkBytes(t, x) {
					taken++
				}
			}
			checkBytes(t, slices.Delete(slices.Clone(b), i, i+1))
			for _, n := range []byte{0, 1, 2, 127, 128, 129, 255} {
				checkBytes(t, slices.Insert(slices.Clone(b), i, n))
			}
		}
	}
	if taken < 1000 {
		t.Errorf("P11.1: only %d of the changed bytes are taken", taken)
	}
	for _, o := range ordinary()[:10] {
		b := encodeCell(t, o.Cell)
		for i := range b {
			for n := range 256 {
				x := slices.Clone(b)
				x[i] = byte(n)
				checkCellBytes(t, x)
				checkCellBytes(t, append(x, b...))
			}
		}
	}
}

func TestAllShortBytes(t *testing.T) {
	for a := range 256 {
		checkBytes(t, []byte{byte(a)})
		checkCellBytes(t, []byte{byte(a)})
		for b := range 256 {
			checkBytes(t, []byte{byte(a), byte(b)})
			checkCellBytes(t, []byte{byte(a), byte(b)})
			for _, c := range []byte{0, 1, 2, 3, 9, 65, 127, 128, 200, 255} {
				checkBytes(t, []byte{byte(a), byte(b), c})
				checkCellBytes(t, []byte{byte(a), byte(b), c})
				checkCellBytes(t, []byte{byte(a), byte(b), c, 0})
			}
		}
	}
}

func TestAnyBytes(t *testing.T) {
	d := dice(5)
	for i := range 200000 {
		b := make([]byte, d.throw(40))
		for k := range b {
			b[k] = byte(d.throw(1 + 256>>d.throw(7)))
		}
		checkCellBytes(t, b)
		if len(b) > 6 {
			// A front that is right, so that more than the first bytes are read.
			copy(b, []byte{1, byte(1 + i%7), 4, 'c', '0', 'n', '0'})
		}
		checkBytes(t, b)
	}
}

// bytesOf are those that the writer gives also of what may not be.
func bytesOf(os ...api.Op) []byte {
	var w writer
	w.batch(os)
	return w.written
}

// wrongCells are cells that may not be, of which there are bytes of the form that others have.
func wrongCells() []api.Cell {
	one := num(10000)
	l := []api.Cell{
		{Formula: true}, {Value: api.Value{Kind: 6}}, {Value: api.Value{Kind: 5}}, text(strings.Repeat("x", 201)), text("\xff"), text("a\x80"), text("\xed\xa0\x80"), text(strings.Repeat("\xff", 200)), fault(0), fault(8), fault(1 << 40),
		tree(api.Expr{Kind: 10}), tree(num(-1)), tree(num(math.MinInt64)), tree(str(strings.Repeat("x", 201))), tree(str("\xff")), tree(wrong(0)), tree(wrong(8)),
		tree(rowRef(-1)), tree(colRef(-1)), tree(rowRef(last + 1)), tree(colRef(last + 1)), tree(rowRef(math.MaxInt64)), tree(rowRef(math.MinInt64)), tree(on("x", 0)), tree(on("c16n0", 0)), tree(on("c0n00", 0)), tree(on(here+" ", 0)),
		tree(area(api.Ref{}, api.Ref{Sheet: here})), tree(area(api.Ref{Sheet: here}, api.Ref{Sheet: here})), tree(area(api.Ref{}, api.Ref{Row: -1})), tree(area(api.Ref{Row: last + 1}, api.Ref{})),
		tree(bin(one, "", one)), tree(bin(one, "+-", one)), tree(bin(one, "==", one)), tree(bin(one, "(", one)), tree(bin(one, "F", one)),
		tree(call("")), tree(call("f")), tree(call("F1")), tree(call("TRUE")), tree(call("FALSE", one)), tree(call("ABCDEFGHIJKLMNOPQRSTU")), tree(call("É")), tree(call("F", slices.Repeat([]api.Expr{one}, 31)...)), tree(call("F", slices.Repeat([]api.Expr{one}, 300)...)),
		tree(deep(51)), tree(deep(52)), tree(deep(200)), tree(deep(1 << 16)), tree(bin(deep(50), "+", one)), tree(bin(one, "+", deep(50))), tree(call("F", one, deep(50))), tree(many(201, one)), tree(many(202, one)), tree(many(900, one)), tree(neg(many(200, one))),
	}
	wide := one
	for range 8 {
		wide = bin(wide, "+", wide)
	}
	return append(l, tree(wide), tree(neg(api.Expr{})), tree(call("F", one, api.Expr{})))
}

// wrongOps are operations that may not be, of which there are bytes of the form that others have.
func wrongOps() []api.Op {
	l := []api.Op{
		{Kind: 0, Sheet: here}, {Kind: 8, Sheet: here}, {Kind: 1 << 40, Sheet: here}, {Kind: -1, Sheet: here}, {Kind: api.ORemove}, remove("x"), remove("c16n0"), remove("c0n1000000"), remove("c00n0"), remove("C0n0"), remove("c0n0\x00"), remove(strings.Repeat("c0n0", 100)),
		set(-1, 0, api.Cell{}), set(0, -1, api.Cell{}), set(last+1, 0, api.Cell{}), set(0, last+1, api.Cell{}), set(math.MinInt64, math.MaxInt64, api.Cell{}),
		format(256, rect(0, 0, 1, 1)), format(1<<40, rect(0, 0, 1, 1)), format(-1, rect(0, 0, 1, 1)), format(1), format(1, spots(257)...), format(1, spots(1000)...), format(1, rect(0, 0, 1, 257)), format(1, rect(0, 0, 257, 1)), format(1, rect(0, 0, 0, 1)), format(1, rect(0, 0, 1, 0)), format(1, rect(1, 1, 0, 0)), format(1, rect(-1, 0, 1, 1)), format(1, rect(0, 0, math.MaxInt64, 1)),
		format(1, rect(last+1, 0, last+2, 1)), format(1, rect(0, last, 1, last+2)), format(1, rect(1<<42-1, 0, 1<<42, 1)),
		format(1, rect(0, 0, 1, 1), rect(0, 0, 1, 1)), format(1, rect(2, 0, 3, 1), rect(0, 0, 1, 1)), format(1, rect(0, 0, 1, 1), rect(0, 1, 1, 2)), format(1, rect(0, 0, 2, 1), rect(1, 2, 2, 3)), format(1, append(spots(255), rect(300, 0, 301, 2))...),
	}
	for _, name := range []string{"", strings.Repeat("a", 21), strings.Repeat("a", 200), "é", "\x00", "a\x1f", "\x7f", "\xff"} {
		l = append(l, add(here, name), rename(here, name))
	}
	for _, line := range []api.Line{{}, {Kind: 4}, {Kind: -1, At: 3}, ins(-1), ins(last + 1), del(-1), del(last + 1), {Kind: api.LIns, To: 1}, {Kind: api.LDel, At: 3, To: 1}, moved(3, 3), moved(3, 4), moved(-1, 3), moved(3, -1), moved(3, last+1), moved(last+1, 3), moved(math.MaxInt64, math.MinInt64)} {
		l = append(l, row(line), col(line))
	}
	for _, c := range wrongCells() {
		l = append(l, set(1, 1, c))
	}
	return l
}

func TestBytesOfWhatMayNotBe(t *testing.T) {
	for _, o := range wrongOps() {
		if op.May(o) {
			t.Errorf("the test's own %.300s may be", tell(o))
		}
		for _, os := range [][]api.Op{{o}, {o, o}, {remove(here), o}, {o, remove(here)}, append(ordinary()[:5], o)} {
			checkNoBatch(t, os...)
			checkNone(t, bytesOf(os...), "what may not be")
		}
	}
	for _, c := range wrongCells() {
		if b, err := Cell(c); err != api.ErrBatch || b != nil {
			t.Errorf("P11.1, P0.2: Cell of %.300s, which may not be: %d bytes, %d", tellCell(c), len(b), err)
		}
		var w writer
		w.cell(c)
		checkNoCell(t, w.written, "what may not be")
		checkNoCell(t, append(w.written, make([]byte, 300)...), "what may not be")
	}
	for _, o := range ordinary() {
		for _, n := range []int{33, 34, 64, 127, 128, 1000} {
			checkNone(t, bytesOf(slices.Repeat([]api.Op{o}, n)...), "too many")
		}
	}
}

// What has fields that its kind has not is not written as if it had them not.
func TestFieldsThatAKindHasNot(t *testing.T) {
	for _, o := range ordinary() {
		for i, put := range []func(o *api.Op){
			func(o *api.Op) { o.Row = -1 }, func(o *api.Op) { o.Col = -1 }, func(o *api.Op) { o.Line.At = -1 }, func(o *api.Op) { o.Line.Kind = 9 }, func(o *api.Op) { o.Rects = []api.Rect{{}} }, func(o *api.Op) { o.Format = -1 }, func(o *api.Op) { o.Name = "\x00" },
			func(o *api.Op) { o.Cell.Value.Kind = -1 }, func(o *api.Op) { o.Cell.Formula = !o.Cell.Formula; o.Cell.Value.Kind++ }, func(o *api.Op) { o.Cell.Value.Num++; o.Cell.Value.Text += "x"; o.Cell.Value.Err++ },
			func(o *api.Op) { o.Cell.Expr.Num++; o.Cell.Expr.Text += "x"; o.Cell.Expr.Err++ }, func(o *api.Op) { o.Cell.Expr.Refs = append(o.Cell.Expr.Refs, api.Ref{Row: -1}) }, func(o *api.Op) { o.Cell.Expr.Kids = append(o.Cell.Expr.Kids, api.Expr{}) },
		} {
			other := clone(o)
			put(&other)
			if op.May(other) {
				t.Errorf("the test's own change %d may be: %s", i, tell(other))
			}
			checkNoBatch(t, other)
			checkNoBatch(t, o, other)
		}
	}
	for _, c := range []api.Cell{
		{Formula: true, Expr: num(1), Value: api.Value{Kind: api.VNumber}}, {Formula: true, Expr: num(1), Value: api.Value{Num: 1}}, {Expr: num(1)}, {Value: api.Value{Kind: api.VNumber}, Expr: num(1)}, {Value: api.Value{Num: 1}}, {Value: api.Value{Kind: api.VNumber, Text: "x"}}, {Value: api.Value{Kind: -1}},
		tree(api.Expr{Kind: api.XNum, Text: "x"}), tree(api.Expr{Kind: api.XRef}), tree(api.Expr{Kind: api.XRef, Refs: make([]api.Ref, 2)}), tree(api.Expr{Kind: api.XRange, Refs: make([]api.Ref, 1)}), tree(api.Expr{Kind: api.XNeg}), tree(api.Expr{Kind: api.XNeg, Kids: []api.Expr{num(1), num(1)}}), tree(api.Expr{Kind: api.XBin, Text: "+", Kids: []api.Expr{num(1)}}), tree(api.Expr{Kind: -1}), tree(api.Expr{Kind: math.MinInt}),
	} {
		if b, err := Cell(c); err != api.ErrBatch || b != nil {
			t.Errorf("P11.1, P0.2: Cell of %.300s, which may not be: %d bytes, %d", tellCell(c), len(b), err)
		}
		checkNoBatch(t, set(1, 1, c))
	}
}

// padded is n as no writer writes it: with so many bytes more than it needs.
func padded(n uint64, more int) []byte {
	var w writer
	w.number(n)
	b := w.written
	for range more {
		b[len(b)-1] |= 128
		b = append(b, 0)
	}
	return b
}

// pieces are the bytes of a batch, cut where its numbers begin and end: those at odd places are numbers.
func pieces(parts ...any) [][]byte {
	l := [][]byte{nil}
	for _, p := range parts {
		switch p := p.(type) {
		case int:
			l = append(l, padded(uint64(p), 0), nil)
		case string:
			l = append(l, padded(uint64(len(p)), 0), []byte(p))
		}
	}
	return l
}

// batchPieces are batches of which each number, count and length is known.
func batchPieces() [][][]byte {
	return [][][]byte{
		pieces(0),
		pieces(1, api.ORemove, here),
		pieces(2, api.OAdd, here, "ab", api.ORename, far, "c"),
		pieces(1, api.ORow, here, api.LMove, 3, 900),
		pieces(1, api.OCol, here, api.LIns, 1<<40, 0),
		pieces(1, api.OFormat, here, 2, 0, 1, 1, 2, 1<<30, 5, 1<<30+1, 6, 255),
		pieces(1, api.OSet, here, 1<<41-1, 0, api.VBlank),
		pieces(1, api.OSet, here, 0, 0, api.VNumber, 25000),
		pieces(1, api.OSet, here, 0, 0, api.VText, "a text"),
		pieces(1, api.OSet, here, 0, 0, api.VBool, 1),
		pieces(1, api.OSet, here, 0, 0, api.VError, 7),
		pieces(1, api.OSet, here, 0, 0, formula, api.XNum, math.MaxInt64),
		pieces(1, api.OSet, here, 0, 0, formula, api.XText, "x"),
		pieces(1, api.OSet, here, 0, 0, formula, api.XBin, "<=", api.XBool, 0, api.XErr, 3),
		pieces(1, api.OSet, here, 0, 0, formula, api.XCall, "SUM", 3, api.XCall, "F", 0, api.XRef, "", 4, 500, 3, api.XNeg, api.XRange, far, 1, 2, 0, "", 7, 8, 1),
	}
}

// cellPieces are the pieces of the cells of those of batchPieces that set one.
func cellPieces() [][][]byte {
	var l [][][]byte
	for _, ps := range batchPieces() {
		if len(ps) > 11 && ps[3][0] == api.OSet {
			// Behind the count, the kind, the sheet, the row and the column.
			l = append(l, append([][]byte{nil}, ps[11:]...))
		}
	}
	return l
}

// hugeNumbers are those that are more than anything may be.
func hugeNumbers() [][]byte {
	l := [][]byte{bytes.Repeat([]byte{255}, 9), bytes.Repeat([]byte{255}, 10), bytes.Repeat([]byte{255}, 1000), bytes.Repeat([]byte{128}, 1000), append(bytes.Repeat([]byte{255}, 9), 1), append(bytes.Repeat([]byte{255}, 9), 2), append(bytes.Repeat([]byte{255}, 9), 127), append(bytes.Repeat([]byte{128}, 9), 1), append(bytes.Repeat([]byte{128}, 9), 2), append(bytes.Repeat([]byte{128}, 10), 1), append(bytes.Repeat([]byte{128}, 70), 1)}
	for bits := 31; bits < 64; bits++ {
		l = append(l, padded(1<<bits, 0), padded(1<<bits-1, 0))
	}
	return append(l, padded(math.MaxUint64, 0))
}

// otherwise calls do with what ps is when one of its numbers is written otherwise.
func otherwise(ps [][]byte, do func(b []byte, padded bool)) {
	for i := 1; i < len(ps); i += 2 {
		n := uint64(0)
		for k, b := range ps[i] {
			n |= uint64(b&127) << (7 * k)
		}
		with := func(number []byte) []byte {
			other := slices.Clone(ps)
			other[i] = number
			return bytes.Join(other, nil)
		}
		for more := 1; more < 12; more++ {
			do(with(padded(n, more)), true)
		}
		// Bits that 64 have no room for.
		beyond := padded(n, 10-len(ps[i]))
		beyond[9] = 2
		do(with(beyond), true)
		for _, huge := range hugeNumbers() {
			do(with(huge), false)
			do(append(with(huge), make([]byte, 1<<10)...), false)
		}
	}
}

func TestNumbersWrittenOtherwise(t *testing.T) {
	for i, ps := range batchPieces() {
		if !checkBytes(t, bytes.Join(ps, nil)) {
			t.Errorf("the test's own batch %d is none", i)
		}
		otherwise(ps, func(b []byte, padded bool) {
			if padded {
				checkNone(t, b, "a number that is not written as Encode writes it")
			} else {
				checkBytes(t, b)
			}
		})
	}
	for i, ps := range cellPieces() {
		if !checkCellBytes(t, bytes.Join(ps, nil)) {
			t.Errorf("the test's own cell %d is none", i)
		}
		otherwise(ps, func(b []byte, padded bool) {
			if padded {
				checkNoCell(t, b, "a number that is not written as Cell writes it")
			} else {
				checkCellBytes(t, b)
			}
		})
	}
	if len(cellPieces()) != 9 {
		t.Errorf("the test's own cells: %d", len(cellPieces()))
	}
}

// Counts and lengths that are huge, with few bytes behind them and with many.
func TestHugeCountsAndLengths(t *testing.T) {
	fronts := [][]byte{
		nil, {1, 7}, {1, 1}, {1, 5, 4, 'c', '0', 'n', '0'}, {1, 4, 4, 'c', '0', 'n', '0'}, {1, 1, 4, 'c', '0', 'n', '0', 0, 0, 2}, {1, 1, 4, 'c', '0', 'n', '0', 0, 0, formula, api.XText}, {1, 1, 4, 'c', '0', 'n', '0', 0, 0, formula, api.XCall},
		{1, 1, 4, 'c', '0', 'n', '0', 0, 0, formula, api.XCall, 1, 'F'}, {1, 1, 4, 'c', '0', 'n', '0', 0, 0, formula, api.XBin}, {1, 1, 4, 'c', '0', 'n', '0', 0, 0, formula, api.XRef},
	}
	for _, front := range fronts {
		for _, huge := range hugeNumbers() {
			for _, room := range []int{0, 1, 100, 1 << 16} {
				b := slices.Concat(front, huge, bytes.Repeat([]byte{1}, room))
				checkNone(t, b, "huge")
				if len(front) > 9 {
					checkNoCell(t, b[9:], "huge")
				}
			}
		}
	}
}

// Bytes of trees that go on as long as there are bytes.
func TestLongBytes(t *testing.T) {
	front := []byte{1, 1, 4, 'c', '0', 'n', '0', 0, 0}
	for _, again := range [][]byte{{api.XNeg}, {api.XBin, 1, '+'}, {api.XBin, 1, '+', api.XNum, 0}, {api.XCall, 1, 'F', 1}, {api.XCall, 1, 'F', 30}, {api.XCall, 1, 'F', 30, api.XNum, 0}, {api.XNum, 0}, {0}, {1}, {128}, {255}} {
		long := append([]byte{formula}, bytes.Repeat(again, 1<<22/len(again))...)
		if again[0] != api.XNum && again[0] != 1 {
			checkNoCell(t, long, "without end")
		} else if c, n, err := ReadCell(long); err != api.OK || n != 3 {
			t.Errorf("P11.1: ReadCell of a cell with many bytes behind it: %+v, %d, %d", c, n, err)
		}
		checkNone(t, append(slices.Clone(front), long...), "without end")
		checkNone(t, long, "without end")
	}
}

// Trees that stand within themselves, or have more nodes than can be gone through.
func TestTreesWithoutEnd(t *testing.T) {
	loop := []api.Expr{num(1), {Kind: api.XBin, Text: "+"}}
	loop[1].Kids = loop
	around := []api.Expr{{Kind: api.XNeg}}
	around[0].Kids = around
	great := num(1)
	for range 1000 {
		great = bin(great, "+", great)
	}
	for _, e := range []api.Expr{loop[1], around[0], great} {
		for _, formula := range []bool{true, false} {
			c := api.Cell{Formula: formula, Expr: e}
			if b, err := Cell(c); b != nil || err != api.ErrBatch {
				t.Errorf("P11.1: Cell of a tree without end: %d bytes, %d", len(b), err)
			}
			checkNoBatch(t, set(1, 1, c))
			checkNoBatch(t, remove(here), set(1, 1, c))
		}
	}
	// A list that stands at two places of a tree that may be is written at both.
	twice := bin(num(1), "+", num(2))
	checkCell(t, tree(bin(twice, "*", twice)))
}

// scribble writes into all lists of os, their spare room too.
func scribble(os []api.Op) {
	os = os[:cap(os)]
	for i := range os {
		rects := os[i].Rects[:cap(os[i].Rects)]
		for k := range rects {
			rects[k] = rect(-9, -9, -9, -9)
		}
		scribbleTree(&os[i].Cell.Expr)
		os[i] = api.Op{Kind: 99}
	}
}

func scribbleTree(e *api.Expr) {
	refs, kids := e.Refs[:cap(e.Refs)], e.Kids[:cap(e.Kids)]
	for i := range refs {
		refs[i] = api.Ref{Sheet: "scribble"}
	}
	for i := range kids {
		scribbleTree(&kids[i])
		kids[i] = api.Expr{Kind: 99}
	}
}

// scribbleRoom writes behind the ends of all lists of a tree.
func scribbleRoom(e *api.Expr) {
	refs, kids := e.Refs[len(e.Refs):cap(e.Refs)], e.Kids[len(e.Kids):cap(e.Kids)]
	for i := range refs {
		refs[i] = api.Ref{Sheet: "scribble"}
	}
	for i := range kids {
		kids[i] = api.Expr{Kind: 99}
	}
	for i := range e.Kids {
		scribbleRoom(&e.Kids[i])
	}
}

func TestAnswersAreNewMemory(t *testing.T) {
	for _, os := range append(samples(), []api.Op{set(1, 1, tree(many(200, on(far, 3))))}) {
		b := encode(t, os...)
		kept := slices.Clone(b)
		other := encode(t, os...)
		got, _ := Decode(b)
		again, _ := Decode(b)
		clear(b[:cap(b)])
		if !bytes.Equal(other, kept) {
			t.Errorf("P0.3: two calls of Encode share memory")
		}
		if tellAll(got) != tellAll(os) {
			t.Errorf("P0.3: what Decode answers shares memory with the bytes of %.300s", tellAll(os))
		}
		for i := range got {
			rects := got[i].Rects[len(got[i].Rects):cap(got[i].Rects)]
			for k := range rects {
				rects[k] = rect(-9, -9, -9, -9)
			}
			scribbleRoom(&got[i].Cell.Expr)
		}
		if tellAll(got) != tellAll(os) {
			t.Errorf("P0.3: two lists of what Decode answers share memory: %.300s", tellAll(os))
		}
		scribble(got)
		if third, _ := Decode(kept); tellAll(again) != tellAll(os) || tellAll(third) != tellAll(os) || !bytes.Equal(encode(t, os...), kept) {
			t.Errorf("P0.3, P0.5: what was answered hangs on what was written into another answer: %.300s", tellAll(os))
		}
	}
	for _, o := range ordinary()[:10] {
		b := encodeCell(t, o.Cell)
		kept := slices.Clone(b)
		other := encodeCell(t, o.Cell)
		c, _, _ := ReadCell(b)
		again, _, _ := ReadCell(b)
		clear(b[:cap(b)])
		if !bytes.Equal(other, kept) || tellCell(c) != tellCell(o.Cell) {
			t.Errorf("P0.3: a cell's bytes share memory: %+v", o.Cell)
		}
		scribbleTree(&c.Expr)
		if tellCell(again) != tellCell(o.Cell) {
			t.Errorf("P0.3: two calls of ReadCell share memory: %+v", o.Cell)
		}
	}
}

func TestArgumentsStayAsTheyAre(t *testing.T) {
	room := func(b []byte) []byte {
		return append(slices.Clone(b), 1, 2, 3)[:len(b)]
	}
	for _, os := range samples() {
		b := room(encode(t, os...))
		before := slices.Clone(b[:cap(b)])
		for i := range len(b) + 1 {
			Decode(b[:i])
			ReadCell(b[i:])
		}
		if !bytes.Equal(b[:cap(b)], before) {
			t.Errorf("P0.3: Decode or ReadCell changes its bytes: %.300s", tellAll(os))
		}
		full := append(slices.Clone(os), api.Op{Kind: 99}, api.Op{Kind: 98})
		for i := range full {
			full[i] = clone(full[i])
			full[i].Rects = append(full[i].Rects, rect(9, 8, 7, 6))[:len(full[i].Rects)]
			full[i].Cell.Expr.Kids = append(full[i].Cell.Expr.Kids, api.Expr{Kind: 97})[:len(full[i].Cell.Expr.Kids)]
		}
		told := tellRoom(full)
		Encode(full[:len(os)]...)
		Encode(full...)
		for _, o := range full {
			Cell(o.Cell)
		}
		if tellRoom(full) != told {
			t.Errorf("P0.3: Encode or Cell changes its lists: %.300s", tellAll(os))
		}
	}
}

// tellRoom tells the spare room too.
func tellRoom(os []api.Op) string {
	s := ""
	for _, o := range os[:cap(os)] {
		o.Rects = o.Rects[:cap(o.Rects)]
		o.Cell.Expr.Kids = o.Cell.Expr.Kids[:cap(o.Cell.Expr.Kids)]
		s += tell(o) + "\n"
	}
	return s
}

func TestSameAnswerAgain(t *testing.T) {
	for _, o := range append(ops()[:500], ordinary()...) {
		a, b := encode(t, o), encode(t, clone(o))
		if !bytes.Equal(a, b) {
			t.Errorf("P0.5: Encode of %.300s and a copy of it", tell(o))
		}
	}
}
