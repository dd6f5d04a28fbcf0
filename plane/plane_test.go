package plane

import (
	"math"
	"reflect"
	"slices"
	"testing"

	"counterpane/api"
)

const first = "c0n0"

const last = 1<<41 - 1 // line that a sheet has

func cell(row, col int64) api.At { return api.At{Sheet: first, Row: row, Col: col} }

// dice is a row of numbers that are the same in each run.
type dice uint64

func (d *dice) roll(n int) int {
	*d = *d*6364136223846793005 + 1442695040888963407
	return int(uint64(*d)>>33) % n
}

// line is one of few, or one of all that there are: near the ends, and near the powers of two.
func (d *dice) line(few int) int64 {
	if few > 0 {
		return int64(d.roll(few))
	}
	n := int64(1)<<d.roll(42) + int64(d.roll(5)) - 2
	if d.roll(3) == 0 {
		n = last - n
	}
	return min(max(n, 0), last)
}

// inside says whether p is between a and b, worked out without a box.
func inside(p, a, b int64) bool { return a <= p && p <= b || b <= p && p <= a }

func TestBoxes(t *testing.T) {
	if got := One(cell(7, 9)); got != (Box{first, 7, 9, 7, 9}) {
		t.Errorf("the box of one cell is %v", got)
	}
	for _, ends := range [][4]int64{{1, 2, 3, 4}, {3, 4, 1, 2}, {1, 4, 3, 2}, {3, 2, 1, 4}} {
		if got := Between(first, ends[0], ends[1], ends[2], ends[3]); got != (Box{first, 1, 2, 3, 4}) {
			t.Errorf("the box between %v is %v", ends, got)
		}
	}
	b := Box{first, 1, 1, 3, 4}
	for row := range int64(6) {
		for col := range int64(6) {
			want := row >= 1 && row <= 3 && col >= 1 && col <= 4
			one := One(cell(row, col))
			if b.Holds(one) != want || b.meets(one) != want || one.meets(b) != want || one.Holds(b) {
				t.Errorf("%v and %v", b, one)
			}
			wide := Between(first, row, col, row+1, col+1)
			if b.Holds(wide) != (want && row < 3 && col < 4) || b.meets(wide) != (row <= 3 && col <= 4) {
				t.Errorf("%v and %v", b, wide)
			}
			one.Sheet = "c1n1"
			if b.Holds(one) || b.meets(one) {
				t.Error("boxes of two sheets meet")
			}
		}
	}
	if !b.Holds(b) || !b.meets(b) {
		t.Error("a box does not hold itself")
	}
}

func TestInOrder(t *testing.T) {
	l := []api.At{{}, {Sheet: "c0n0", Row: -1, Col: 5}, {Sheet: "c0n0"}, {Sheet: "c0n0", Col: 1}, {Sheet: "c0n0", Row: 1}, {Sheet: "c0n0", Row: 9, Col: 1}, {Sheet: "c0n0", Row: 10}, {Sheet: "c10n0"}, {Sheet: "c1n0"}, {Sheet: "c1n0", Row: math.MaxInt64}}
	for i, a := range l {
		for j, b := range l {
			got := InOrder(a, b)
			if (got < 0) != (i < j) || (got > 0) != (i > j) {
				t.Errorf("%v against %v: %d", a, b, got)
			}
		}
	}
}

// A block is found by each of the cells of its box, and the blocks of one shape do not overlap.
func TestBlocks(t *testing.T) {
	d := dice(3)
	for i := range 20_000 {
		few := []int{0, 9}[i%2]
		b := Between(first, d.line(few), d.line(few), d.line(few), d.line(few))
		s, block := b.Block()
		for _, at := range []api.At{b.first(), b.last(), cell(b.R0, b.C1), cell(b.R1, b.C0), cell(b.R0/2+b.R1/2, b.C0/2+b.C1/2)} {
			if b.Holds(One(at)) && s.Block(at) != block {
				t.Fatalf("%v of %v is in the block %v, not in %v", at, b, s.Block(at), block)
			}
		}
		// One line more than the block has, and it is another one's.
		for _, at := range []api.At{cell(b.R0+1<<s.high, b.C0), cell(b.R0, b.C0+1<<s.wide), cell(b.R0-1<<s.high, b.C0), cell(b.R0, b.C0-1<<s.wide)} {
			if s.Block(at) == block {
				t.Fatalf("%v is in the block of %v", at, b)
			}
		}
		// A block half as great does not have all of it.
		if s.high > 0 && (Shape{s.high - 1, s.wide}).Block(b.first()) == (Shape{s.high - 1, s.wide}).Block(b.last()) || s.wide > 0 && (Shape{s.high, s.wide - 1}).Block(b.first()) == (Shape{s.high, s.wide - 1}).Block(b.last()) {
			t.Fatalf("%v fits into less than %v", b, s)
		}
	}
}

// cells is those of c.
func cells(c *Crowd) []api.At {
	var out []api.At
	if c != nil {
		c.Each(func(at api.At) { out = append(out, at) })
	}
	return out
}

// sound holds what c keeps against what it is.
func sound(t *testing.T, c *Crowd) {
	t.Helper()
	all := cells(c)
	around := One(all[0])
	for _, at := range all {
		around = around.and(One(at))
	}
	if c.around != around {
		t.Fatalf("around %v is %v", all, c.around)
	}
	at, alone := c.Alone()
	if alone != (len(all) == 1) || alone && at != all[0] || !alone && at != (api.At{}) {
		t.Fatalf("%v alone: %v, %v", all, at, alone)
	}
	if alone {
		return
	}
	for _, half := range c.Halves() {
		sound(t, half)
	}
}

// hold holds c against the cells that it should have.
func hold(t *testing.T, c *Crowd, want map[api.At]bool, bs []Box) {
	t.Helper()
	got := cells(c)
	if len(got) != len(want) || slices.ContainsFunc(got, func(at api.At) bool { return !want[at] }) {
		t.Fatalf("%v; want %v", got, want)
	}
	if c == nil {
		return
	}
	sound(t, c)
	within := 0
	for at := range want {
		if slices.ContainsFunc(bs, func(b Box) bool {
			return inside(at.Row, b.R0, b.R1) && inside(at.Col, b.C0, b.C1) && at.Sheet == b.Sheet
		}) {
			within++
		}
	}
	told := map[api.At]bool{}
	c.Within(bs, func(part *Crowd) {
		for _, at := range cells(part) {
			if told[at] || !want[at] || !slices.ContainsFunc(bs, func(b Box) bool { return inside(at.Row, b.R0, b.R1) && inside(at.Col, b.C0, b.C1) }) {
				t.Fatalf("%v is told of %v within %v", at, got, bs)
			}
			told[at] = true
		}
	})
	if len(told) != within {
		t.Fatalf("%d of %v are told within %v; want %d", len(told), got, bs, within)
	}
}

// Cells that come and go, some that are there already, and some that are not.
func TestCrowds(t *testing.T) {
	d := dice(17)
	for round := range 400 {
		few := []int{0, 3, 8, 20}[round%4]
		var c *Crowd
		want := map[api.At]bool{}
		for range 80 {
			at := cell(d.line(few), d.line(few))
			if d.roll(3) > 0 {
				c, want[at] = c.With(at), true
			} else {
				c = c.Without(at)
				delete(want, at)
			}
			var bs []Box
			for range d.roll(4) {
				bs = append(bs, Between([]string{first, first, "c1n1"}[d.roll(3)], d.line(few), d.line(few), d.line(few), d.line(few)))
			}
			hold(t, c, want, bs)
		}
		// By another way it becomes the same.
		var again *Crowd
		for at := range want {
			again = again.With(cell(at.Row, at.Col+1)).With(at)
		}
		for at := range want {
			if next := cell(at.Row, at.Col+1); !want[next] {
				again = again.Without(next)
			}
		}
		if !reflect.DeepEqual(c, again) {
			t.Fatal("the form of a crowd hangs on more than its cells")
		}
		for at := range want {
			c = c.Without(at)
		}
		if c != nil {
			t.Fatalf("of nothing is left %v", cells(c))
		}
	}
}

// However many cells are in a box, few crowds are told.
func TestFewCrowdsAreTold(t *testing.T) {
	var c *Crowd
	for row := range int64(128) {
		for col := range int64(128) {
			c = c.With(cell(row, col))
		}
	}
	for what, most := range map[Box]int{{first, 0, 0, 127, 127}: 1, {first, 0, 0, last, last}: 1, {first, 0, 0, 127, 63}: 2, {first, 1, 1, 126, 126}: 1000, {first, 0, 7, 127, 7}: 128, {"c1n1", 0, 0, 127, 127}: 0, {first, 128, 0, last, last}: 0} {
		n := 0
		c.Within([]Box{what}, func(*Crowd) { n++ })
		if n > most {
			t.Errorf("within %v %d crowds are told", what, n)
		}
	}
}
