package wal

import (
	"bytes"
	"math"
	"slices"
	"strings"
	"testing"

	"counterpane/api"
	"counterpane/disk"
	"counterpane/frame"
	"counterpane/sheet"
	"counterpane/show"
	"counterpane/snapshot"
)

const home = "c0n0"

// cell is what one gets who writes s.
func cell(s string) api.Cell {
	c, err := show.Read(s)
	if err != api.OK {
		panic("the test's own cell " + s + " is none")
	}
	return c
}

func set(id string, row, col int64, s string) api.Op {
	return api.Op{Kind: api.OSet, Sheet: id, Row: row, Col: col, Cell: cell(s)}
}

// entry is the n-th.
func entry(n int64) api.Entry {
	return api.Entry{Client: int(n % 16), Seq: n, Ops: []api.Op{set(home, n, 0, "=A1")}}
}

// entries are the first n.
func entries(n int64) []api.Entry {
	var l []api.Entry
	for i := int64(1); i <= n; i++ {
		l = append(l, entry(i))
	}
	return l
}

// logged is a log of the first n entries, its disk, and what it holds.
func logged(t *testing.T, n int64) (*Log, *disk.Disk, state) {
	t.Helper()
	h := begin(t, disk.New(), newState())
	for _, e := range entries(n) {
		h.append(t, e)
	}
	return h.log, h.disk, h.state()
}

// appended is the bytes of the log's file.
func appended(d *disk.Disk) []byte {
	b, _ := d.Read("log")
	return b
}

func TestOpenEmpty(t *testing.T) {
	d := disk.New()
	l := Open(d)
	checkHolds(t, l, newState(), "an empty disk")
	if _, _, last := l.Base(); len(last) != 16 {
		t.Errorf("P21.1: Base of an empty disk has %d Seqs", len(last))
	}
	l.Sync()
	if got := allFiles(d); got != "0" {
		t.Errorf("P21.1: Open of an empty disk does something to it: %s", got)
	}
}

func TestOpenAgain(t *testing.T) {
	h := begin(t, disk.New(), newState())
	for n := int64(1); n <= 12; n++ {
		h.append(t, entry(n))
		h.open(t, h.state())
		if n%3 == 0 {
			h.sync(t)
			h.open(t, h.state())
		}
		if n%4 == 0 {
			h.fold(t)
			h.open(t, h.state())
		}
	}
	h.append(t, entry(13))
	h.open(t, h.state())
	if s := held(h.log); s.number != 12 || len(s.entries) != 1 || s.entries[0].Seq != 13 || s.last[12] != 12 || s.last[13] != 0 {
		t.Errorf("P21.1: thirteen entries, of which twelve are folded, are %s", s)
	}
}

func TestWorkbookLogged(t *testing.T) {
	h := begin(t, disk.New(), newState())
	b := sheet.New()
	d := dice(7)
	for n := int64(1); n <= 60; n++ {
		e := d.entry(n)
		h.append(t, e)
		b.Apply(e.Ops...)
		if n%10 == 7 {
			h.fold(t)
		}
		if got := held(h.log).made(); !got.Eq(b) || h.log.Len() != n {
			t.Fatalf("P21.1: Base with all Entries applied is not the workbook behind %d", n)
		}
	}
}

func TestAppend(t *testing.T) {
	many := slices.Repeat([]api.Op{set(home, 1, 2, "x")}, 33)
	for _, c := range []struct {
		what string
		e    api.Entry
		ok   bool
	}{
		{"Client 0", api.Entry{Client: 0, Seq: 5, Ops: many[:1]}, true},
		{"Client 7", api.Entry{Client: 7, Seq: 5, Ops: many[:2]}, true},
		{"Client 15", api.Entry{Client: 15, Seq: 5, Ops: many[:1]}, true},
		{"Client -1", api.Entry{Client: -1, Seq: 5, Ops: many[:1]}, false},
		{"Client 16", api.Entry{Client: 16, Seq: 5, Ops: many[:1]}, false},
		{"Client 256", api.Entry{Client: 256, Seq: 5, Ops: many[:1]}, false},
		{"the least Client", api.Entry{Client: math.MinInt, Seq: 5, Ops: many[:1]}, false},
		{"the greatest Client", api.Entry{Client: math.MaxInt, Seq: 5, Ops: many[:1]}, false},
		{"Seq 1", api.Entry{Client: 3, Seq: 1, Ops: many[:1]}, true},
		{"Seq 256", api.Entry{Client: 3, Seq: 256, Ops: many[:1]}, true},
		{"Seq 2^40 - 1", api.Entry{Client: 3, Seq: 1<<40 - 1, Ops: many[:1]}, true},
		{"Seq 2^40", api.Entry{Client: 3, Seq: 1 << 40, Ops: many[:1]}, true},
		{"Seq 0", api.Entry{Client: 3, Seq: 0, Ops: many[:1]}, false},
		{"Seq -1", api.Entry{Client: 3, Seq: -1, Ops: many[:1]}, false},
		{"Seq 2^40 + 1", api.Entry{Client: 3, Seq: 1<<40 + 1, Ops: many[:1]}, false},
		{"the least Seq", api.Entry{Client: 3, Seq: math.MinInt64, Ops: many[:1]}, false},
		{"the greatest Seq", api.Entry{Client: 3, Seq: math.MaxInt64, Ops: many[:1]}, false},
		{"a nil batch", api.Entry{Client: 3, Seq: 5}, true},
		{"an empty batch", api.Entry{Client: 3, Seq: 5, Ops: []api.Op{}}, true},
		{"a batch of 32", api.Entry{Client: 3, Seq: 5, Ops: many[:32]}, true},
		{"a batch of 33", api.Entry{Client: 3, Seq: 5, Ops: many}, false},
		{"a zero operation", api.Entry{Client: 3, Seq: 5, Ops: []api.Op{{}}}, false},
		{"an operation that may not be behind one that may", api.Entry{Client: 3, Seq: 5, Ops: []api.Op{many[0], set(home, -1, 0, "x")}}, false},
		{"a sheet's id that is none", api.Entry{Client: 3, Seq: 5, Ops: []api.Op{set("c16n0", 1, 0, "x")}}, false},
		{"an operation that does not stand", api.Entry{Client: 3, Seq: 5, Ops: []api.Op{set("c9n9", 1, 0, "x")}}, true},
		{"a zero entry", api.Entry{}, false},
	} {
		for n := range int64(3) {
			checkAppend(t, n, c.what, c.e, c.ok)
		}
	}
}

// checkAppend is of e behind n others.
func checkAppend(t *testing.T, n int64, what string, e api.Entry, ok bool) {
	t.Helper()
	l, d, want := logged(t, n)
	was, units := appended(d), d.Units()
	if got := l.Append(e); got != ok {
		t.Errorf("P21.1: Append: %s: %t", what, got)
	}
	if ok {
		want = want.with(e)
	}
	checkHolds(t, l, want, what)
	is := appended(d)
	if !bytes.HasPrefix(is, was) || d.Units()-units != len(is)-len(was) || d.Units() != len(is) {
		t.Errorf("P21.1: Append: %s: %d units, and the log's %d bytes are %d: not one Append of the disk", what, d.Units()-units, len(was), len(is))
	}
	if !ok && d.Units() != units {
		t.Errorf("P21.1: Append: %s: refused, and yet %d units", what, d.Units()-units)
	}
	if ok {
		if records, _ := frame.Scan(is[len(was):]); len(records) != 1 {
			t.Errorf("P21.1: Append: %s: %d records", what, len(records))
		}
	}
	l.Append(entry(n + 2))
	checkHolds(t, l, want.with(entry(n+2)), what+", and one more")
	checkHolds(t, Open(d), want.with(entry(n+2)), what+", and one more, opened again")
}

// TestLongestBatch is of one whose bytes are as many as may be.
func TestLongestBatch(t *testing.T) {
	far := int64(1<<41 - 600)
	var rects []api.Rect
	for i := range int64(256) {
		rects = append(rects, api.Rect{R0: far + 2*i, C0: far, R1: far + 2*i + 1, C1: far + 1})
	}
	o := api.Op{Kind: api.OFormat, Sheet: "c15n999999", Rects: rects, Format: 255}
	long := set("c15n999999", far, far, "="+strings.Repeat("c15n999999!$A$1099511627776&", 35)+"1")
	for _, o := range []api.Op{o, long} {
		checkAppend(t, 1, "the longest batch", api.Entry{Client: 15, Seq: 1 << 40, Ops: slices.Repeat([]api.Op{o}, 32)}, true)
	}
}

func TestSync(t *testing.T) {
	l, d, want := logged(t, 3)
	checkHolds(t, Open(d.Cut(0)), newState(), "entries that are not synced, cut")
	l.Sync()
	units := d.Units()
	checkHolds(t, Open(d.Cut(0)), want, "entries that are synced, cut")
	l.Append(entry(4))
	checkHolds(t, Open(d.Cut(0)), want, "an entry behind Sync, cut")
	l.Sync()
	checkHolds(t, Open(d.Cut(0)), want.with(entry(4)), "synced again, cut")
	if n := d.Units() - units; n != len(appended(d))-units {
		t.Errorf("P21.1: Sync takes units")
	}
}

func TestFold(t *testing.T) {
	for n := range int64(5) {
		l, d, was := logged(t, n)
		for range 2 {
			if !l.Fold(was.made(), was.seqs()) {
				t.Errorf("P21.1: Fold of %d entries is refused", n)
			}
			checkHolds(t, l, was.folded(), "Fold")
			checkHolds(t, Open(d.Cut(0)), was.folded(), "Fold, cut")
			if _, there := d.Read("new"); there || len(appended(d)) != 0 {
				t.Errorf("P21.1: Fold of %d entries leaves the file new, or entries: %s", n, allFiles(d))
			}
			if l.Len() != n || len(l.Entries()) != 0 {
				t.Errorf("P21.1: Len behind a Fold of %d entries: %d, with %d", n, l.Len(), len(l.Entries()))
			}
		}
		want := was.folded().with(entry(n + 1))
		l.Append(entry(n + 1))
		checkHolds(t, l, want, "an entry behind Fold")
		if !l.Fold(want.made(), want.seqs()) {
			t.Errorf("P21.1: Fold behind Fold is refused")
		}
		checkHolds(t, l, want.folded(), "Fold behind Fold")
		checkHolds(t, Open(d), want.folded(), "Fold behind Fold, opened again")
	}
}

// TestFoldHandedIn folds what has nothing to do with the entries: it is not asked for.
func TestFoldHandedIn(t *testing.T) {
	b := sheet.New()
	b.Apply(set(home, 7, 7, "=B2"), api.Op{Kind: api.OAdd, Sheet: "c3n4", Name: "é"}, api.Op{Kind: api.ORemove, Sheet: home})
	for _, c := range []struct {
		what string
		last []int64
		ok   bool
	}{
		{"nil", nil, false},
		{"no numbers", []int64{}, false},
		{"one", make([]int64, 1), false},
		{"15", make([]int64, 15), false},
		{"16", make([]int64, 16), true},
		{"17", make([]int64, 17), false},
		{"32", make([]int64, 32), false},
		{"2^40 at the end", append(make([]int64, 15), 1<<40), true},
		{"2^40 at the beginning", append([]int64{1 << 40}, make([]int64, 15)...), true},
		{"2^40 everywhere", slices.Repeat([]int64{1 << 40}, 16), true},
		{"all of them others", []int64{1, 22, 333, 4444, 5, 6, 7, 8, 9, 10, 11, 12, 13, 14, 15, 1 << 39}, true},
		{"-1 at the end", append(make([]int64, 15), -1), false},
		{"-1 at the beginning", append([]int64{-1}, make([]int64, 15)...), false},
		{"2^40 + 1 at the end", append(make([]int64, 15), 1<<40+1), false},
		{"2^40 + 1 in the middle", append(append(make([]int64, 8), 1<<40+1), make([]int64, 7)...), false},
		{"the least", append(make([]int64, 15), math.MinInt64), false},
		{"the greatest", append(make([]int64, 15), math.MaxInt64), false},
	} {
		checkFold(t, c.what, b, c.last, c.ok)
		checkFold(t, c.what+", and a nil workbook", nil, c.last, false)
	}
}

// checkFold is of a Fold behind three entries.
func checkFold(t *testing.T, what string, b *sheet.Book, last []int64, ok bool) {
	t.Helper()
	l, d, want := logged(t, 3)
	l.Sync()
	l.Append(entry(4))
	want = want.with(entry(4))
	was := allFiles(d)
	if got := l.Fold(b, last); got != ok {
		t.Errorf("P21.1: Fold: %s: %t", what, got)
	}
	if ok {
		want = state{book: b, number: 4, last: last}
	} else if allFiles(d) != was || d.Cut(0).Units() == d.Units() {
		t.Errorf("P21.1: Fold: %s: refused, but something is done to the disk", what)
	}
	checkHolds(t, l, want, what)
	checkHolds(t, Open(d), want, what+", opened again")
	l.Append(entry(5))
	checkHolds(t, Open(d), want.with(entry(5)), what+", gone on with")
}

// texts is a workbook with texts of such lengths, each of which takes its bytes by its length alone.
func texts(lengths ...int) *sheet.Book {
	b := sheet.New()
	for i, n := range lengths {
		c := api.Cell{Value: api.Value{Kind: api.VText, Text: strings.Repeat("x", n)}}
		b.Apply(api.Op{Kind: api.OSet, Sheet: home, Row: int64(1<<20 + i), Col: 3, Cell: c})
	}
	return b
}

// bookOf is a workbook of just so many bytes, far more than a text has.
func bookOf(t *testing.T, size int) *sheet.Book {
	t.Helper()
	none := len(snapshot.Encode(texts()))
	var cost []int
	for n := range 201 {
		cost = append(cost, len(snapshot.Encode(texts(n)))-none)
	}
	many := (size-none)/cost[200] - 1
	rest := size - none - many*cost[200]
	for i := range cost {
		for j := range cost {
			if cost[i]+cost[j] != rest {
				continue
			}
			b := texts(append(slices.Repeat([]int{200}, many), i, j)...)
			if got := len(snapshot.Encode(b)); got != size {
				t.Fatalf("the test's own workbook has %d bytes, not %d", got, size)
			}
			return b
		}
	}
	t.Fatalf("the test has no workbook of %d bytes", size)
	return nil
}

func TestFoldTooLong(t *testing.T) {
	last := slices.Repeat([]int64{1 << 40}, 16)
	for _, c := range []struct {
		what string
		size int
		ok   bool
	}{
		{"a workbook just as long as a frame's record may be", api.MaxFrame, true},
		{"a workbook that is a byte too long for a frame", api.MaxFrame + 1, false},
		{"a workbook that is far too long for a frame", api.MaxFrame + 100000, false},
	} {
		checkFold(t, c.what, bookOf(t, c.size), last, c.ok)
	}
}

// TestTakenAway is of what stands behind the last whole record of the log.
func TestTakenAway(t *testing.T) {
	l, d, _ := logged(t, 4)
	l.Append(entry(5))
	five := appended(d)
	four := appended(d.Cut(d.Units() - 1))
	spoilt := slices.Clone(five[len(four)-20:])
	spoilt[len(spoilt)/2]++
	for what, junk := range map[string][]byte{
		"a byte":               {0},
		"three bytes":          {1, 2, 3},
		"many noughts":         make([]byte, 7),
		"a hundred bytes":      slices.Repeat([]byte{200}, 100),
		"a part of an entry":   four[len(four)-10:],
		"a spoilt entry":       spoilt,
		"a whole one behind":   append([]byte{0}, five...),
		"a length that is far": {255, 255, 255, 255, 1, 2, 3, 4, 5},
	} {
		for n := range int64(4) {
			checkTakenAway(t, n, what, junk)
		}
	}
}

// checkTakenAway is of bytes behind n entries.
func checkTakenAway(t *testing.T, n int64, what string, junk []byte) {
	t.Helper()
	_, d, want := logged(t, n)
	was := appended(d)
	d.Append("log", junk)
	checkHolds(t, Open(d), want, what)
	if is := appended(d); !bytes.Equal(is, was) {
		t.Errorf("P21.1: Open: behind %d entries stands %s, and of it %d bytes are left", n, what, len(is)-len(was))
	}
	units := d.Units()
	for range 2 {
		checkHolds(t, Open(d), want, what+", opened again")
	}
	if d.Units() != units {
		t.Errorf("P21.1: Open: behind %d entries stands %s, which is taken away more than once", n, what)
	}
	checkHolds(t, Open(d.Cut(0)), want, what+", cut")
	l := Open(d)
	l.Append(entry(n + 1))
	checkHolds(t, l, want.with(entry(n+1)), what+", gone on with")
	checkHolds(t, Open(d), want.with(entry(n+1)), what+", gone on with, opened again")
}

// recordOf is of an entry that may be.
func recordOf(number int64, e api.Entry) []byte {
	r, ok := newRecord(number, e)
	if !ok {
		panic("the test's own entry has no record")
	}
	return r
}

// with is b with another byte at a place.
func with(b []byte, at int, c byte) []byte {
	b = slices.Clone(b)
	b[at] = c
	return b
}

// TestWholeButNone is of whole records that are not the next entry's, alone and with the next entry's behind them.
func TestWholeButNone(t *testing.T) {
	for n := range int64(3) {
		next := recordOf(n+1, entry(n+1))
		for what, r := range map[string][]byte{
			"of no bytes":                    nil,
			"of one byte":                    {1},
			"that has the head alone":        next[:opsAt],
			"that is cut in its head":        next[:opsAt-1],
			"that is cut in its number":      next[:numberSize-1],
			"that is cut":                    next[:len(next)-1],
			"with a byte behind":             append(slices.Clone(next), 0),
			"of client 16":                   with(next, clientAt, 16),
			"of client 255":                  with(next, clientAt, 255),
			"of Seq 0":                       with(next, seqAt, 0),
			"of a Seq below 0":               with(next, seqAt+7, 128),
			"of Seq 2^40 and more":           with(next, seqAt+5, 1),
			"of bytes that are no batch":     with(next, opsAt, 255),
			"of the number 0":                recordOf(0, entry(n+1)),
			"of the number -1":               recordOf(-1, entry(n+1)),
			"of the least number":            recordOf(math.MinInt64, entry(n+1)),
			"of the next number but one":     recordOf(n+2, entry(n+1)),
			"of the number of the last one":  recordOf(max(n, 0), entry(n+1)),
			"of the greatest number":         recordOf(math.MaxInt64, entry(n+1)),
			"of a number 256 times as great": recordOf((n+1)<<8, entry(n+1)),
		} {
			checkTakenAway(t, n, "a whole record "+what, frame.Frame(r))
			checkTakenAway(t, n, "a whole record "+what+", and an entry", append(frame.Frame(r), frame.Frame(next)...))
		}
	}
}

// TestWholeAndNext is of records that were not put there by the log, but are those that it puts there.
func TestWholeAndNext(t *testing.T) {
	_, d, want := logged(t, 2)
	for n := int64(3); n <= 5; n++ {
		d.Append("log", frame.Frame(recordOf(n, entry(n))))
		want = want.with(entry(n))
		checkHolds(t, Open(d), want, "a record put there by hand")
	}
}
