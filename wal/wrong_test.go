package wal

import (
	"fmt"
	"math"
	"slices"
	"testing"

	"counterpane/api"
	"counterpane/disk"
	"counterpane/frame"
	"counterpane/sheet"
	"counterpane/snapshot"
)

func TestNil(t *testing.T) {
	if l := Open(nil); l != nil {
		t.Errorf("P21.1: Open of a nil disk is a log")
	}
	for _, l := range []*Log{nil, {}, Open(nil)} {
		for range 2 {
			l.Sync()
			b, n, last := l.Base()
			if b != nil || n != 0 || len(last) != 0 || len(l.Entries()) != 0 || l.Len() != 0 {
				t.Errorf("P0.1: a log without a disk has a base or entries")
			}
			if l.Append(entry(1)) || l.Append(api.Entry{}) || l.Fold(sheet.New(), make([]int64, 16)) || l.Fold(nil, nil) {
				t.Errorf("P0.1: a log without a disk takes something")
			}
		}
	}
}

func TestNilLists(t *testing.T) {
	l, d, want := logged(t, 1)
	other, e, _ := logged(t, 1)
	if !l.Append(api.Entry{Client: 1, Seq: 2}) || !other.Append(api.Entry{Client: 1, Seq: 2, Ops: []api.Op{}}) {
		t.Errorf("P0.4: an empty batch is refused")
	}
	want = want.with(api.Entry{Client: 1, Seq: 2})
	checkHolds(t, l, want, "a nil batch")
	checkHolds(t, other, want, "an empty batch")
	if allFiles(d) != allFiles(e) {
		t.Errorf("P0.4: a nil batch is not on the disk as an empty one")
	}
	if l.Fold(want.made(), nil) || l.Fold(want.made(), []int64{}) {
		t.Errorf("P21.1: Fold takes no Seqs")
	}
}

// manyOps is a batch with all lists that there are.
func manyOps() []api.Op {
	return []api.Op{
		set(home, 1, 1, `=SUM(A1:B2,c0n0!C3)&"x"`),
		{Kind: api.OFormat, Sheet: home, Rects: []api.Rect{{R0: 1, C0: 1, R1: 2, C1: 3}, {R0: 5, C0: 1, R1: 6, C1: 3}}, Format: 3},
	}
}

// roomy is l with spare room that holds something.
func roomy[T any](l []T, spare T) []T {
	out := append(slices.Clone(l), spare, spare)
	return out[:len(l)]
}

// spoilOps writes into all of os that can be written into, its spare room too.
func spoilOps(os []api.Op) {
	os = os[:cap(os)]
	for i := range os {
		spoilExpr(&os[i].Cell.Expr)
		clear(os[i].Rects[:cap(os[i].Rects)])
		os[i] = api.Op{Kind: api.ORemove, Sheet: "c3n3"}
	}
}

func spoilExpr(e *api.Expr) {
	kids := e.Kids[:cap(e.Kids)]
	for i := range kids {
		spoilExpr(&kids[i])
	}
	clear(kids)
	clear(e.Refs[:cap(e.Refs)])
	e.Text = "spoilt"
}

func TestArgumentsStay(t *testing.T) {
	ops := roomy(manyOps(), api.Op{Kind: 7})
	want := fmt.Sprintf("%+v", ops[:cap(ops)])
	l := Open(disk.New())
	l.Append(api.Entry{Client: 2, Seq: 1, Ops: ops})
	l.Append(api.Entry{Client: 16, Seq: 1, Ops: ops})
	if got := fmt.Sprintf("%+v", ops[:cap(ops)]); got != want {
		t.Errorf("P0.3: Append changes the batch that it is given")
	}
	last := roomy(make([]int64, 16), 77)
	b := sheet.New()
	b.Apply(manyOps()...)
	same := b.Copy()
	l.Fold(b, last)
	l.Append(api.Entry{Client: 2, Seq: 2, Ops: ops})
	if !b.Eq(same) || !slices.Equal(last[:18], append(make([]int64, 16), 77, 77)) {
		t.Errorf("P0.3: Fold changes what it is given")
	}
}

func TestArgumentsChanged(t *testing.T) {
	d := disk.New()
	l := Open(d)
	e := api.Entry{Client: 2, Seq: 1, Ops: roomy(manyOps(), api.Op{})}
	want := newState().with(api.Entry{Client: 2, Seq: 1, Ops: manyOps()})
	l.Append(e)
	spoilOps(e.Ops)
	checkHolds(t, l, want, "P0.3: a batch that is changed behind Append")
	checkHolds(t, Open(d), want, "P0.3: a batch that is changed behind Append, opened again")
	b, last := want.made(), roomy(want.seqs(), 5)
	l.Fold(b, last)
	b.Apply(set(home, 9, 9, "changed"), api.Op{Kind: api.ORow, Sheet: home, Line: api.Line{Kind: api.LIns}})
	clear(last[:cap(last)])
	checkHolds(t, l, want.folded(), "P0.3: a workbook and Seqs that are changed behind Fold")
	checkHolds(t, Open(d), want.folded(), "P0.3: a workbook and Seqs that are changed behind Fold, opened again")
}

func TestAnswersChanged(t *testing.T) {
	d := disk.New()
	l := Open(d)
	want := newState()
	for n := int64(1); n <= 3; n++ {
		e := api.Entry{Client: 2, Seq: n, Ops: manyOps()}
		l.Append(e)
		want = want.with(e)
		checkAnswersChanged(t, l, want)
		checkAnswersChanged(t, Open(d), want)
	}
	l.Fold(want.made(), want.seqs())
	e := api.Entry{Client: 2, Seq: 9, Ops: manyOps()}
	l.Append(e)
	checkAnswersChanged(t, l, want.folded().with(e))
	checkAnswersChanged(t, Open(d), want.folded().with(e))
}

func checkAnswersChanged(t *testing.T, l *Log, want state) {
	t.Helper()
	b, _, last := l.Base()
	other, _, others := l.Base()
	list, again := l.Entries(), l.Entries()
	b.Apply(set(home, 9, 9, "changed"), api.Op{Kind: api.ORow, Sheet: home, Line: api.Line{Kind: api.LIns}})
	for i := range last[:cap(last)] {
		last[:cap(last)][i] = -9
	}
	list = list[:cap(list)]
	for i := range list {
		spoilOps(list[i].Ops)
		list[i] = api.Entry{Client: -1}
	}
	got := state{other, want.number, others, again}
	if got.String() != want.String() {
		t.Errorf("P0.3: what Base and Entries answered is changed by what is done to another answer")
	}
	checkHolds(t, l, want, "P0.3: what Base and Entries answer is changed")
	first := l.Entries()
	spoilOps(first[0].Ops)
	if len(first) > 1 && fmt.Sprintf("%+v", first[1]) != fmt.Sprintf("%+v", want.entries[1]) {
		t.Errorf("P0.3: two entries of one answer share memory")
	}
}

// TestSameAgain tells two logs the same, and asks the one far more than the other.
func TestSameAgain(t *testing.T) {
	d, e := disk.New(), disk.New()
	a, b := Open(d), Open(e)
	want := newState()
	dice := dice(5)
	for n := int64(1); n <= 40; n++ {
		next := dice.entry(n)
		want = want.with(next)
		a.Append(next)
		b.Append(next)
		checkHolds(t, a, want, "asked often")
		if n%9 == 0 {
			a.Fold(want.made(), want.seqs())
			b.Fold(want.made(), want.seqs())
			want = want.folded()
		}
	}
	checkHolds(t, b, want, "asked once")
	if allFiles(d) != allFiles(e) {
		t.Errorf("P0.5: what logs that were told the same wrote is not the same")
	}
}

// checkAny is of a disk that holds anything: whatever the log takes of it stays, and it goes on.
func checkAny(t *testing.T, d *disk.Disk, what string) state {
	t.Helper()
	l := Open(d)
	s := held(l)
	if len(s.last) != 16 || l.Len() != s.len() || s.number < 0 || slices.Min(s.last) < 0 || slices.Max(s.last) > 1<<40 {
		t.Fatalf("P21.1: %s: the log holds %.300s", what, s)
	}
	for _, e := range s.entries {
		if !Open(disk.New()).Append(e) {
			t.Fatalf("P21.1: %s: the log holds an entry that may not be: %+v", what, e)
		}
	}
	units := d.Units()
	checkHolds(t, Open(d), s, what+", opened again")
	if d.Units() != units {
		t.Fatalf("P21.1: %s: Open does something to the disk twice", what)
	}
	next := entry(3)
	if !l.Append(next) {
		t.Fatalf("P21.1: %s: Append is refused", what)
	}
	checkHolds(t, Open(copied(d)), s.with(next), what+", gone on with")
	if !l.Fold(s.with(next).made(), s.with(next).seqs()) {
		t.Fatalf("P21.1: %s: Fold is refused", what)
	}
	checkHolds(t, Open(d), s.with(next).folded(), what+", folded")
	return s
}

// diskOf has files of these bytes; none: the file is not there.
func diskOf(log, snap, old []byte) *disk.Disk {
	d := disk.New()
	d.Append("log", log)
	d.Append("snap", snap)
	d.Append("new", old)
	return d
}

func TestAnyBytes(t *testing.T) {
	d := dice(11)
	for range 3000 {
		var bs [3][]byte
		for i := range bs {
			for range d.roll(30) {
				bs[i] = append(bs[i], []byte{0, 1, 2, 16, 128, 255, byte(d.roll(256))}[d.roll(7)])
			}
		}
		s := checkAny(t, diskOf(bs[0], bs[1], bs[2]), fmt.Sprintf("files of %q", bs))
		if s.String() != newState().String() {
			t.Errorf("P21.1: of files %q the log holds %s", bs, s)
		}
	}
}

// TestChangedBytes is of files that the log wrote, in which a byte is another one.
func TestChangedBytes(t *testing.T) {
	l, d, first := logged(t, 3)
	l.Fold(first.made(), first.seqs())
	snap, _ := d.Read("snap")
	want := first.folded()
	for n := int64(4); n <= 6; n++ {
		l.Append(entry(n))
		want = want.with(entry(n))
	}
	log := appended(d)
	checkHolds(t, Open(diskOf(log, snap, []byte{1, 2})), want, "files that are not changed")
	for i := range log {
		for _, x := range []byte{1, 128, 255} {
			s := checkAny(t, diskOf(with(log, i, log[i]^x), snap, log), fmt.Sprintf("byte %d of the log is another one", i))
			if s.number != 3 || len(s.entries) >= 3 || s.String() != first.folded().with(want.entries[:len(s.entries)]...).String() {
				t.Errorf("P21.1: byte %d of the log is another one, and it holds %s", i, s)
			}
		}
	}
	for i := range snap {
		s := checkAny(t, diskOf(log, with(snap, i, snap[i]+1), nil), fmt.Sprintf("byte %d of snap is another one", i))
		if s.String() != newState().String() {
			t.Errorf("P21.1: byte %d of snap is another one, and the log holds %s", i, s)
		}
	}
	for n := range len(snap) {
		s := checkAny(t, diskOf(log, snap[:n], nil), fmt.Sprintf("%d bytes of snap", n))
		if s.String() != newState().String() {
			t.Errorf("P21.1: snap has %d bytes of %d, and the log holds %s", n, len(snap), s)
		}
	}
}

// TestSwappedFiles has the one file's bytes in the other.
func TestSwappedFiles(t *testing.T) {
	l, d, s := logged(t, 3)
	l.Fold(s.made(), s.seqs())
	l.Append(entry(4))
	snap, _ := d.Read("snap")
	for _, c := range [][3][]byte{
		{snap, appended(d), nil},
		{snap, nil, appended(d)},
		{nil, appended(d), snap},
		{nil, nil, snap},
		{snap, nil, snap},
		{nil, nil, nil},
	} {
		s := checkAny(t, diskOf(c[0], c[1], c[2]), "files that stand in the place of others")
		if s.String() != newState().String() {
			t.Errorf("P21.1: of files that stand in the place of others the log holds %s", s)
		}
	}
	s = checkAny(t, diskOf(snap, snap, snap), "three times snap")
	if s.String() != first(3).folded().String() {
		t.Errorf("P21.1: of three times snap the log holds %s", s)
	}
}

// first is what the first n entries leave.
func first(n int64) state { return newState().with(entries(n)...) }

// head is what stands ahead of a workbook.
func head(numbers ...int64) []byte {
	var b []byte
	for _, n := range numbers {
		b = appendNumber(b, n)
	}
	return b
}

// snapOf is a file snap of any records.
func snapOf(records ...[]byte) []byte {
	var b []byte
	for _, r := range records {
		b = append(b, frame.Frame(r)...)
	}
	return b
}

func TestAnySnap(t *testing.T) {
	b := first(2).made()
	book := snapshot.Encode(b)
	noughts := make([]int64, 16)
	seqs := slices.Repeat([]int64{1 << 40}, 16)
	of := func(number int64, last ...int64) []byte { return head(append([]int64{number}, last...)...) }
	for _, c := range []struct {
		what string
		file []byte
		want state
	}{
		{"a head and a workbook", snapOf(of(5, seqs...), book), state{b, 5, seqs, nil}},
		{"number 0", snapOf(of(0, noughts...), book), state{b, 0, noughts, nil}},
		{"a great number", snapOf(of(math.MaxInt64-1, noughts...), book), state{b, math.MaxInt64 - 1, noughts, nil}},
		{"bytes behind", append(snapOf(of(5, seqs...), book), 1, 2, 3), state{b, 5, seqs, nil}},
		{"a record behind", snapOf(of(5, seqs...), book, book), state{b, 5, seqs, nil}},
		{"number -1", snapOf(of(-1, noughts...), book), newState()},
		{"the least number", snapOf(of(math.MinInt64, noughts...), book), newState()},
		{"15 Seqs", snapOf(of(5, noughts[:15]...), book), newState()},
		{"17 Seqs", snapOf(of(5, append(slices.Clone(noughts), 0)...), book), newState()},
		{"a byte behind the Seqs", snapOf(append(of(5, noughts...), 0), book), newState()},
		{"a byte too few of the Seqs", snapOf(of(5, noughts...)[:17*8-1], book), newState()},
		{"Seq -1", snapOf(of(5, append([]int64{-1}, noughts[:15]...)...), book), newState()},
		{"Seq 2^40 + 1", snapOf(of(5, append(slices.Clone(noughts[:15]), 1<<40+1)...), book), newState()},
		{"a head alone", snapOf(of(5, seqs...)), newState()},
		{"no head", snapOf(nil, book), newState()},
		{"a workbook alone", snapOf(book), newState()},
		{"two workbooks", snapOf(book, book), newState()},
		{"bytes that are no workbook", snapOf(of(5, seqs...), []byte{255}), newState()},
		{"no bytes of a workbook", snapOf(of(5, seqs...), nil), newState()},
		{"a byte behind the workbook", snapOf(of(5, seqs...), append(slices.Clone(book), 0)), newState()},
		{"records without bytes", snapOf(nil, nil), newState()},
	} {
		if got := checkAny(t, diskOf(nil, c.file, nil), c.what); got.String() != c.want.String() {
			t.Errorf("P21.1: snap: %s: the log holds %.300s", c.what, got)
		}
	}
}

// TestGreatestNumber has a base behind which no entry can be numbered.
func TestGreatestNumber(t *testing.T) {
	want := state{first(2).made(), math.MaxInt64, make([]int64, 16), nil}
	snap := snapOf(head(append([]int64{want.number}, want.last...)...), snapshot.Encode(want.book))
	log := frame.Frame(recordOf(math.MaxInt64, entry(1)))
	for _, log := range [][]byte{nil, {1, 2}, log, append(log, log...)} {
		d := diskOf(log, snap, nil)
		l := Open(d)
		checkHolds(t, l, want, "the greatest number")
		was := allFiles(d)
		if l.Append(entry(1)) || allFiles(d) != was {
			t.Errorf("P0.6: Append behind the greatest number is not refused")
		}
		checkHolds(t, Open(d), want, "the greatest number, gone on with")
		if !l.Fold(want.book, want.last) {
			t.Errorf("P21.1: Fold at the greatest number is refused")
		}
		checkHolds(t, Open(d), want, "the greatest number, folded")
	}
}

// TestGap has entries behind a base which are not the next ones.
func TestGap(t *testing.T) {
	l, d, s := logged(t, 3)
	l.Fold(s.made(), s.seqs())
	snap, _ := d.Read("snap")
	framed := func(numbers ...int64) []byte {
		var b []byte
		for _, n := range numbers {
			b = append(b, frame.Frame(recordOf(n, entry(n)))...)
		}
		return b
	}
	for _, c := range []struct {
		numbers []int64
		taken   int
	}{
		{[]int64{4, 5}, 2},
		{[]int64{1, 2, 3}, 0},
		{[]int64{1, 2, 3, 4, 5}, 2},
		{[]int64{3, 4}, 1},
		{[]int64{5}, 0},
		{[]int64{1, 2, 3, 5, 4}, 0},
		{[]int64{4, 6}, 1},
		{[]int64{4, 4, 5}, 1},
		{[]int64{4, 5, 4, 6}, 2},
	} {
		want := s.folded()
		for i := range int64(c.taken) {
			want = want.with(entry(4 + i))
		}
		if got := checkAny(t, diskOf(framed(c.numbers...), snap, nil), fmt.Sprint(c.numbers)); got.String() != want.String() {
			t.Errorf("P21.1: a log of %v behind a base of 3 holds %s", c.numbers, got)
		}
	}
}
