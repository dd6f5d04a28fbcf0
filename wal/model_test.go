package wal

import (
	"fmt"
	"slices"
	"testing"

	"counterpane/api"
	"counterpane/disk"
	"counterpane/sheet"
	"counterpane/snapshot"
)

// state is what a log holds, told without one.
type state struct {
	book    *sheet.Book // the base's
	number  int64
	last    []int64
	entries []api.Entry
}

func newState() state { return state{book: sheet.New(), last: make([]int64, 16)} }

func (s state) len() int64 { return s.number + int64(len(s.entries)) }

// made is what all entries make.
func (s state) made() *sheet.Book {
	b := s.book.Copy()
	for _, e := range s.entries {
		b.Apply(e.Ops...)
	}
	return b
}

// seqs are the clients' last ones.
func (s state) seqs() []int64 {
	last := slices.Clone(s.last)
	for _, e := range s.entries {
		last[e.Client] = e.Seq
	}
	return last
}

func (s state) with(es ...api.Entry) state {
	s.entries = append(slices.Clone(s.entries), es...)
	return s
}

func (s state) folded() state {
	return state{book: s.made(), number: s.len(), last: s.seqs()}
}

// String is the same for the same states alone.
func (s state) String() string {
	return fmt.Sprintf("base %d, last %v, %d entries: %+v, book %q", s.number, s.last, len(s.entries), s.entries, snapshot.Encode(s.book))
}

// held is what l answers.
func held(l *Log) state {
	b, n, last := l.Base()
	return state{b, n, last, l.Entries()}
}

// checkHolds is of a log that is to hold want.
func checkHolds(t *testing.T, l *Log, want state, what string) {
	t.Helper()
	got := held(l)
	if got.String() != want.String() {
		t.Fatalf("P21.1, P21.2: %s: the log holds\n%.600s\nand not\n%.600s", what, got, want)
	}
	if !got.book.Eq(want.book) || !got.made().Eq(want.made()) {
		t.Fatalf("P21.1, P21.2: %s: not the workbook that was logged", what)
	}
	if l.Len() != want.len() {
		t.Fatalf("P21.1: %s: Len is %d, not %d", what, l.Len(), want.len())
	}
}

// history is a log on a disk, and what it held behind each thing that was done.
type history struct {
	disk   *disk.Disk
	log    *Log
	states []state
	ends   []int // the disk's units then
	synced int   // the units that a cut leaves, whatever it is
}

// begin opens a log on d, which holds s, and all of which stays.
func begin(t *testing.T, d *disk.Disk, s state) *history {
	t.Helper()
	h := &history{disk: d, synced: d.Units()}
	h.open(t, s)
	return h
}

func (h *history) state() state { return h.states[len(h.states)-1] }

// done notes that the log holds s from now on.
func (h *history) done(t *testing.T, s state, what string) {
	t.Helper()
	checkHolds(t, h.log, s, what)
	h.states = append(h.states, s)
	h.ends = append(h.ends, h.disk.Units())
}

func (h *history) open(t *testing.T, s state) {
	t.Helper()
	h.log = Open(h.disk)
	units := h.disk.Units()
	h.done(t, s, "Open")
	checkHolds(t, Open(h.disk), s, "Open twice")
	if h.disk.Units() != units {
		t.Fatalf("P21.1: Open twice: what stands behind the last record is taken away again")
	}
}

func (h *history) append(t *testing.T, e api.Entry) {
	t.Helper()
	if !h.log.Append(e) {
		t.Fatalf("P21.1: Append of %+v is refused", e)
	}
	h.done(t, h.state().with(e), "Append")
}

func (h *history) sync(t *testing.T) {
	t.Helper()
	h.log.Sync()
	h.synced = h.disk.Units()
	h.done(t, h.state(), "Sync")
}

func (h *history) fold(t *testing.T) {
	t.Helper()
	s := h.state()
	if !h.log.Fold(s.made(), s.seqs()) {
		t.Fatalf("P21.1: Fold is refused")
	}
	h.synced = h.disk.Units()
	h.done(t, s.folded(), "Fold")
}

// step does one thing that the dice say.
func (h *history) step(t *testing.T, d *dice) {
	t.Helper()
	switch d.roll(8) {
	case 0:
		h.sync(t)
	case 1:
		h.fold(t)
	case 2:
		h.open(t, h.state())
	default:
		h.append(t, d.entry(h.state().len()+1))
	}
}

// at is what the log held behind the first n units: a part of an entry is none.
func (h *history) at(n int) state {
	i := len(h.ends) - 1
	for i > 0 && h.ends[i] > n {
		i--
	}
	return h.states[i]
}

// cut is the disk cut to n units, and what is to be found there.
func (h *history) cut(n int) (*disk.Disk, state) {
	return h.disk.Cut(n), h.at(max(n, h.synced))
}

// checkCuts cuts at numbers of units so far apart, opens the log on that, and cuts and opens it again.
func (h *history) checkCuts(t *testing.T, apart int) {
	t.Helper()
	for n := max(h.synced-2, 0); n <= h.disk.Units()+1; n += apart {
		c, want := h.cut(n)
		checkHolds(t, Open(c), want, fmt.Sprintf("cut to %d of %d", n, h.disk.Units()))
		checkHolds(t, Open(c.Cut(n)), want, "cut again")
		checkHolds(t, Open(c.Cut(c.Units())), want, "cut again, with all that was done")
	}
}

// goOn does some things more on what a cut left, and cuts there.
func goOn(t *testing.T, d *dice, c *disk.Disk, want state, n int) {
	t.Helper()
	h := begin(t, c, want)
	for range n {
		h.step(t, d)
		h.checkCuts(t, 5+d.roll(25))
	}
}

// copied is a disk as d, all of which stays.
func copied(d *disk.Disk) *disk.Disk { return d.Cut(d.Units()) }

// tape is a disk that notes what is done to it, so that it can be cut in the midst of a call too, whatever that syncs.
type tape struct {
	*disk.Disk
	begun *disk.Disk
	units []func(*disk.Disk)
	calls []string
}

func newTape(d *disk.Disk) *tape { return &tape{Disk: copied(d), begun: copied(d)} }

func (p *tape) Append(name string, b []byte) {
	p.Disk.Append(name, b)
	for _, x := range b {
		p.units = append(p.units, func(d *disk.Disk) { d.Append(name, []byte{x}) })
	}
	if len(b) > 0 {
		p.calls = append(p.calls, fmt.Sprintf("Append %s %d", name, len(b)))
	}
}

func (p *tape) Create(name string) {
	p.Disk.Create(name)
	p.units = append(p.units, func(d *disk.Disk) { d.Create(name) })
	p.calls = append(p.calls, "Create "+name)
}

func (p *tape) Rename(from, to string) {
	p.Disk.Rename(from, to)
	p.units = append(p.units, func(d *disk.Disk) { d.Rename(from, to) })
	p.calls = append(p.calls, "Rename "+from+" "+to)
}

func (p *tape) Sync() {
	p.Disk.Sync()
	p.calls = append(p.calls, "Sync")
}

// at is what a cut leaves behind the first n units that are on the tape.
func (p *tape) at(n int) *disk.Disk {
	c := copied(p.begun)
	for _, do := range p.units[:n] {
		do(c)
	}
	return copied(c)
}

// checkCalls is of all that is on the tape.
func (p *tape) checkCalls(t *testing.T, what string, want ...string) {
	t.Helper()
	if !slices.Equal(p.calls, want) {
		t.Errorf("P21.1: %s does\n%q\nand not\n%q", what, p.calls, want)
	}
	if n := p.Units() - p.begun.Units(); n != len(p.units) {
		t.Errorf("P21.1: %s does more than is on the tape", what)
	}
}

// allFiles is all that a disk holds.
func allFiles(d *disk.Disk) string {
	out := fmt.Sprint(d.Units())
	for _, name := range []string{"log", "snap", "new"} {
		if b, there := d.Read(name); there {
			out += fmt.Sprintf(" %s:%q", name, b)
		}
	}
	return out
}

// TestCuts cuts within all that can be cut from outside.
func TestCuts(t *testing.T) {
	for seed := range dice(20) {
		d := seed
		h := begin(t, disk.New(), newState())
		for range 12 {
			h.step(t, &d)
			h.checkCuts(t, 1)
			n := h.synced + d.roll(h.disk.Units()-h.synced+1)
			c, want := h.cut(n)
			goOn(t, &d, c, want, 4)
		}
	}
}

func TestCutsWithinFold(t *testing.T) {
	for seed := range dice(8) {
		d := seed
		h := begin(t, disk.New(), newState())
		for range d.roll(12) {
			h.step(t, &d)
		}
		was := h.state()
		p := newTape(h.disk)
		l := open(p)
		p.checkCalls(t, "Open of what is whole")
		if !l.Fold(was.made(), was.seqs()) {
			t.Fatalf("P21.1: Fold is refused")
		}
		snap, _ := p.Read("snap")
		p.checkCalls(t, "Fold",
			"Create new", fmt.Sprintf("Append new %d", len(snap)), "Sync", "Rename new snap", "Sync",
			"Create new", "Sync", "Rename new log", "Sync")
		for n := range len(p.units) + 1 {
			want := was
			if n >= len(snap)+2 {
				want = was.folded()
			}
			c := p.at(n)
			checkHolds(t, Open(c), want, fmt.Sprintf("cut behind %d units of a Fold", n))
			if n%9 == 0 || n > len(snap) {
				goOn(t, &d, c, want, 5)
			}
		}
	}
}

func TestCutsWithinOpen(t *testing.T) {
	for seed := range dice(8) {
		d := seed
		h := begin(t, disk.New(), newState())
		for range d.roll(6) {
			h.step(t, &d)
		}
		for range d.roll(3) {
			h.append(t, d.entry(h.state().len()+1))
		}
		want := h.state()
		whole := len(appended(h.disk))
		h.append(t, d.entry(want.len()+1))
		p := newTape(h.disk.Cut(h.disk.Units() - 1 - d.roll(7)))
		checkHolds(t, open(p), want, "Open")
		l := []string{"Create new", fmt.Sprintf("Append new %d", whole), "Sync", "Rename new log", "Sync"}
		if whole == 0 {
			l = slices.Delete(l, 1, 2)
		}
		p.checkCalls(t, "Open of what is not whole", l...)
		for n := range len(p.units) + 1 {
			c := p.at(n)
			checkHolds(t, Open(c), want, fmt.Sprintf("cut behind %d units of an Open", n))
			goOn(t, &d, c, want, 3)
		}
	}
}

func TestCutsWithinAppend(t *testing.T) {
	d := dice(3)
	for range 10 {
		on, was := disk.New(), newState()
		for n := int64(1); n <= 4; n++ {
			p := newTape(on)
			e := d.entry(n)
			open(p).Append(e)
			size := len(p.units)
			p.checkCalls(t, "Append", fmt.Sprintf("Append log %d", size))
			for n := range size {
				checkHolds(t, Open(p.at(n)), was, fmt.Sprintf("cut behind %d units of an Append", n))
			}
			was = was.with(e)
			checkHolds(t, Open(p.at(size)), was, "cut behind an Append")
			on = p.Disk
		}
		p := newTape(on)
		l := open(p)
		l.Append(api.Entry{})
		p.checkCalls(t, "Append of what may not be")
		l.Sync()
		p.checkCalls(t, "Sync", "Sync")
	}
}

// dice give numbers that are always the same.
type dice uint64

func (d *dice) roll(n int) int {
	*d = *d*6364136223846793005 + 1442695040888963407
	return int(uint64(*d)>>33) % n
}

// entry is the n-th, of any client.
func (d *dice) entry(n int64) api.Entry {
	e := api.Entry{Client: d.roll(16), Seq: n}
	if d.roll(20) == 0 {
		e.Seq = 1 << 40
	}
	for range d.roll(3) {
		e.Ops = append(e.Ops, d.op())
	}
	return e
}

func (d *dice) op() api.Op {
	id := []string{home, "c1n0", "c15n7"}[d.roll(3)]
	row, col := int64(d.roll(5)), int64(d.roll(5))
	switch d.roll(8) {
	case 0:
		return api.Op{Kind: api.ORow, Sheet: id, Line: api.Line{Kind: api.LIns, At: row}}
	case 1:
		return api.Op{Kind: api.OCol, Sheet: id, Line: api.Line{Kind: api.LMove, At: col, To: row + 7}}
	case 2:
		return api.Op{Kind: api.OAdd, Sheet: id, Name: "S"}
	case 3:
		return api.Op{Kind: api.ORemove, Sheet: id}
	case 4:
		return api.Op{Kind: api.OFormat, Sheet: id, Rects: []api.Rect{{R0: row, C0: 0, R1: row + 1, C1: 3}}, Format: 1 + d.roll(9)}
	}
	return set(id, row, col, []string{"", "12.5", "=A1+c1n0!B$2", "some text", `=SUM(A1:B2)&"x"`}[d.roll(5)])
}
