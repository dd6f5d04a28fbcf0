package region

import (
	"math"
	"slices"
	"testing"

	"counterpane/api"
)

const (
	edge  = 1 << 42     // the greatest number of a rectangle
	last  = 1<<41 - 1   // the greatest number of an operation on lines
	most  = 256         // how many of a list count
	width = int64(12)   // of a picture
	whole = 1<<62 + 1e6 // more than any area here but the far ones
)

func rect(r0, c0, r1, c1 int64) api.Rect { return api.Rect{R0: r0, C0: c0, R1: r1, C1: c1} }
func list(rs ...api.Rect) []api.Rect     { return rs }
func ins(at int64) api.Line              { return api.Line{Kind: api.LIns, At: at} }
func del(at int64) api.Line              { return api.Line{Kind: api.LDel, At: at} }
func move(at, to int64) api.Line         { return api.Line{Kind: api.LMove, At: at, To: to} }

// barred are rectangles that may not be; those that are not empty lie across the cells that the tests look at.
func barred() []api.Rect {
	out := list(
		rect(0, 0, 0, 0), rect(0, 0, 0, 5), rect(0, 0, 5, 0), rect(3, 0, 3, 5), rect(0, 3, 5, 3),
		rect(3, 0, 2, 5), rect(5, 0, 0, 5), rect(0, 3, 5, 2), rect(0, 5, 5, 0), rect(5, 5, 0, 0),
		rect(edge, 0, edge, 5), rect(0, edge, 5, edge), rect(edge, edge, edge, edge), rect(edge, 0, edge-1, 5),
	)
	for _, n := range []int64{-1, -2, -edge, math.MinInt64} {
		out = append(out, rect(n, 0, 5, 5), rect(0, n, 5, 5), rect(n, n, 5, 5), rect(0, 0, n, 5), rect(0, 0, 5, n), rect(n, 0, n, 5), rect(n, 0, 0, 5))
	}
	for _, n := range []int64{edge + 1, edge + 2, 2 * edge, math.MaxInt64} {
		out = append(out, rect(0, 0, n, 5), rect(0, 0, 5, n), rect(0, 0, n, n), rect(n, 0, 5, 5), rect(edge, 0, n, 5), rect(0, edge, 5, n))
	}
	return append(out, rect(math.MinInt64, math.MinInt64, math.MaxInt64, math.MaxInt64), rect(math.MaxInt64, 0, math.MinInt64, 5))
}

func barredLines() []api.Line {
	return []api.Line{
		{}, {Kind: 4, At: 1}, {Kind: -1}, {Kind: math.MaxInt64, At: 1, To: 4}, {Kind: api.LIns, At: 1, To: 1}, {Kind: api.LDel, At: 1, To: 4},
		ins(-1), ins(last + 1), del(-1), del(last + 1), move(1, 1), move(1, 2), move(-1, 2), move(2, -1), move(last+1, 1), move(1, last+1),
		ins(math.MinInt64), del(math.MaxInt64), move(math.MinInt64, math.MaxInt64),
	}
}

// picture is a set of cells, each for itself.
type picture [width][width]bool

func pictureOf(rs []api.Rect) picture {
	var p picture
	for _, r := range rs {
		for row := r.R0; row < r.R1; row++ {
			for col := r.C0; col < r.C1; col++ {
				p[row][col] = true
			}
		}
	}
	return p
}

func (p picture) less(q picture) picture {
	for row := range width {
		for col := range width {
			p[row][col] = p[row][col] && !q[row][col]
		}
	}
	return p
}

func (p picture) count() int64 {
	n := int64(0)
	for row := range width {
		for col := range width {
			if p[row][col] {
				n++
			}
		}
	}
	return n
}

// rects are the picture in normal form: rows that are alike are told together, each with its runs of cells.
func (p picture) rects() []api.Rect {
	var out []api.Rect
	for row := int64(0); row < width; {
		end := row + 1
		for end < width && p[end] == p[row] {
			end++
		}
		for col := int64(0); col < width; col++ {
			from := col
			for col < width && p[row][col] {
				col++
			}
			if from < col {
				out = append(out, rect(row, from, end, col))
			}
		}
		row = end
	}
	return out
}

// behind is where the lines 0 to width - 3 are behind l: at each place its line, -1: a new one.
func behind(l api.Line) []int64 {
	var out []int64
	for g := range width - 1 {
		if l.Kind == api.LIns && l.At == g {
			out = append(out, -1)
		}
		if l.Kind == api.LMove && l.To == g {
			out = append(out, l.At)
		}
		if g < width-2 && (l.Kind == api.LIns || l.At != g) {
			out = append(out, g)
		}
	}
	return out
}

// done is the picture when l is done on rows; it has cells in the lines 0 to width - 3 alone.
func (p picture) done(l api.Line) picture {
	var out picture
	for row, from := range behind(l) {
		if from >= 0 {
			out[row] = p[from]
		}
	}
	return out
}

func (p picture) turned() picture {
	var out picture
	for row := range width {
		for col := range width {
			out[col][row] = p[row][col]
		}
	}
	return out
}

// allRects are all rectangles of n lines and n columns.
func allRects(n int64) []api.Rect {
	var out []api.Rect
	for r0 := range n {
		for c0 := range n {
			for r1 := r0 + 1; r1 <= n; r1++ {
				for c1 := c0 + 1; c1 <= n; c1++ {
					out = append(out, rect(r0, c0, r1, c1))
				}
			}
		}
	}
	return out
}

// allLines are all operations on n lines.
func allLines(n int64) []api.Line {
	var out []api.Line
	for at := range n {
		out = append(out, ins(at), del(at))
		for to := range n + 1 {
			if to != at && to != at+1 {
				out = append(out, move(at, to))
			}
		}
	}
	return append(out, ins(n))
}

// dice are numbers that look like chance and are the same every time.
type dice uint32

func (d *dice) next(n int64) int64 {
	*d = *d*1664525 + 1013904223
	return int64(*d>>8) % n
}

// rects are up to count rectangles of the lines and columns 0 to width - 3.
func (d *dice) rects(count int64) []api.Rect {
	var out []api.Rect
	for range d.next(count + 1) {
		r, c := d.next(width-2), d.next(width-2)
		out = append(out, rect(r, c, r+1+d.next(width-2-r), c+1+d.next(width-2-c)))
	}
	return out
}

// stripes are n rows of a cell each, with a row between.
func stripes(n int64) []api.Rect {
	var out []api.Rect
	for i := range n {
		out = append(out, rect(2*i, 0, 2*i+1, 1))
	}
	return out
}

// posts are n columns, with a column between, from row 0 to high - 1.
func posts(n, high int64) []api.Rect {
	var out []api.Rect
	for i := range n {
		out = append(out, rect(0, 2*i, high, 2*i+1))
	}
	return out
}

func shifted(rs []api.Rect, rows, cols int64) []api.Rect {
	var out []api.Rect
	for _, r := range rs {
		out = append(out, rect(r.R0+rows, r.C0+cols, r.R1+rows, r.C1+cols))
	}
	return out
}

func wantList(t *testing.T, what string, got, want []api.Rect) {
	t.Helper()
	if !slices.Equal(got, want) {
		t.Fatalf("P4.1: %s: %v; want %v", what, got, want)
	}
}

func TestMay(t *testing.T) {
	for _, r := range append(allRects(3), rect(0, 0, edge, edge), rect(edge-1, edge-1, edge, edge), rect(0, edge-1, 1, edge), rect(edge-1, 0, edge, 1), rect(0, 0, 1, edge), rect(0, 0, edge, 1)) {
		if !May(r) {
			t.Errorf("Words: %v may not be", r)
		}
	}
	for _, r := range barred() {
		if May(r) {
			t.Errorf("Words: %v may be", r)
		}
	}
}

func TestNormByHand(t *testing.T) {
	for _, x := range []struct{ rs, want []api.Rect }{
		{nil, nil},
		{list(), nil},
		{list(rect(1, 2, 3, 4)), list(rect(1, 2, 3, 4))},
		// Twice, and in one another.
		{list(rect(1, 2, 3, 4), rect(1, 2, 3, 4)), list(rect(1, 2, 3, 4))},
		{list(rect(0, 0, 5, 5), rect(1, 1, 3, 3)), list(rect(0, 0, 5, 5))},
		{list(rect(1, 1, 3, 3), rect(0, 0, 5, 5)), list(rect(0, 0, 5, 5))},
		// That touch: side by side, one above the other, at a corner.
		{list(rect(0, 0, 2, 2), rect(0, 2, 2, 5)), list(rect(0, 0, 2, 5))},
		{list(rect(0, 2, 2, 5), rect(0, 0, 2, 2)), list(rect(0, 0, 2, 5))},
		{list(rect(0, 0, 2, 2), rect(2, 0, 5, 2)), list(rect(0, 0, 5, 2))},
		{list(rect(2, 0, 5, 2), rect(0, 0, 2, 2)), list(rect(0, 0, 5, 2))},
		{list(rect(0, 0, 2, 2), rect(2, 2, 4, 4)), list(rect(0, 0, 2, 2), rect(2, 2, 4, 4))},
		{list(rect(0, 2, 2, 4), rect(2, 0, 4, 2)), list(rect(0, 2, 2, 4), rect(2, 0, 4, 2))},
		// Bands that touch and do not have the same ranges.
		{list(rect(0, 0, 2, 2), rect(2, 0, 4, 3)), list(rect(0, 0, 2, 2), rect(2, 0, 4, 3))},
		{list(rect(0, 0, 2, 2), rect(0, 4, 3, 5)), list(rect(0, 0, 2, 2), rect(0, 4, 2, 5), rect(2, 4, 3, 5))},
		// Bands that have the same ranges and do not touch, with nothing and with something between.
		{list(rect(0, 0, 2, 2), rect(3, 0, 5, 2)), list(rect(0, 0, 2, 2), rect(3, 0, 5, 2))},
		{list(rect(0, 0, 2, 2), rect(3, 0, 5, 2), rect(2, 0, 3, 3)), list(rect(0, 0, 2, 2), rect(2, 0, 3, 3), rect(3, 0, 5, 2))},
		// Bands of two ranges that touch and have the same ones.
		{list(rect(0, 0, 2, 1), rect(2, 3, 4, 4), rect(0, 3, 2, 4), rect(2, 0, 4, 1)), list(rect(0, 0, 4, 1), rect(0, 3, 4, 4))},
		// Columns with one between.
		{list(rect(0, 0, 1, 1), rect(0, 2, 1, 3)), list(rect(0, 0, 1, 1), rect(0, 2, 1, 3))},
		// A cross.
		{list(rect(0, 2, 6, 4), rect(2, 0, 4, 6)), list(rect(0, 2, 2, 4), rect(2, 0, 4, 6), rect(4, 2, 6, 4))},
		// A long range ahead of short ones that lie in it.
		{list(rect(0, 0, 1, 9), rect(0, 1, 1, 2), rect(0, 3, 1, 10)), list(rect(0, 0, 1, 10))},
		// A ring.
		{list(rect(0, 0, 1, 3), rect(2, 0, 3, 3), rect(0, 0, 3, 1), rect(0, 2, 3, 3)), list(rect(0, 0, 1, 3), rect(1, 0, 2, 1), rect(1, 2, 2, 3), rect(2, 0, 3, 3))},
		// The edges.
		{list(rect(0, 0, edge, edge)), list(rect(0, 0, edge, edge))},
		{list(rect(edge-1, edge-1, edge, edge), rect(0, 0, 1, 1)), list(rect(0, 0, 1, 1), rect(edge-1, edge-1, edge, edge))},
		{list(rect(0, 0, edge-1, 1), rect(edge-1, 0, edge, 1)), list(rect(0, 0, edge, 1))},
		{list(rect(0, 0, 1, 1), rect(0, 0, edge+1, 1), rect(0, 0, 1, edge+1)), list(rect(0, 0, 1, 1))},
		// The only ones may not be.
		{list(rect(0, 0, 0, 1), rect(0, 0, 1, 0), rect(-1, 0, 1, 1), rect(0, -1, 1, 1), rect(2, 0, 1, 1)), nil},
	} {
		wantList(t, "Norm", Norm(x.rs...), x.want)
		// Another order is the same set.
		turned := slices.Clone(x.rs)
		slices.Reverse(turned)
		wantList(t, "Norm of another order", Norm(turned...), x.want)
	}
}

func TestNormOfAllThrees(t *testing.T) {
	all := allRects(3)
	for _, a := range all {
		for _, b := range all {
			for _, c := range all {
				wantList(t, "Norm", Norm(a, b, c), pictureOf(list(a, b, c)).rects())
			}
		}
	}
}

func TestSubOfAllThrees(t *testing.T) {
	all := allRects(3)
	for _, a := range all {
		for _, b := range all {
			for _, c := range all {
				wantList(t, "Sub of one without two", Sub(list(a), b, c), pictureOf(list(a)).less(pictureOf(list(b, c))).rects())
				wantList(t, "Sub of two without one", Sub(list(a, b), c), pictureOf(list(a, b)).less(pictureOf(list(c))).rects())
			}
		}
	}
}

func TestLongerLists(t *testing.T) {
	d := dice(7)
	for range 2000 {
		a, b := d.rects(9), d.rects(9)
		pa, pb := pictureOf(a), pictureOf(b)
		wantList(t, "Norm", Norm(a...), pa.rects())
		wantList(t, "Norm of its own", Norm(pa.rects()...), pa.rects())
		wantList(t, "Sub", Sub(a, b...), pa.less(pb).rects())
		for _, m := range []int64{pa.count() - 1, pa.count(), pa.count() + 1, math.MaxInt64} {
			if got, want := Area(a, m), max(0, min(m, pa.count())); got != want {
				t.Fatalf("P4.1: Area(%v, %d): %d; want %d", a, m, got, want)
			}
		}
		if Eq(a, b) != (pa == pb) || !Eq(a, pa.rects()) || !Eq(pa.rects(), a) {
			t.Fatalf("P4.1: Eq of %v, %v", a, b)
		}
		for row := range width {
			for col := range width {
				if Has(a, row, col) != pa[row][col] {
					t.Fatalf("P4.1: Has(%v, %d, %d): not %v", a, row, col, pa[row][col])
				}
			}
		}
	}
}

// What holds at 0 holds at the other edge.
func TestListsAtTheEdge(t *testing.T) {
	d := dice(11)
	for range 500 {
		a, b := d.rects(6), d.rects(6)
		for _, by := range [][2]int64{{edge - width + 2, 0}, {0, edge - width + 2}, {edge - width + 2, edge - width + 2}} {
			far, other := shifted(a, by[0], by[1]), shifted(b, by[0], by[1])
			wantList(t, "Norm", Norm(far...), shifted(Norm(a...), by[0], by[1]))
			wantList(t, "Sub", Sub(far, other...), shifted(Sub(a, b...), by[0], by[1]))
			if Area(far, whole) != Area(a, whole) || Eq(far, other) != Eq(a, b) {
				t.Fatalf("P4.1: Area or Eq of %v, %v", far, other)
			}
			row, col := d.next(width), d.next(width)
			if Has(far, row+by[0], col+by[1]) != Has(a, row, col) {
				t.Fatalf("P4.1: Has(%v, %d, %d)", far, row+by[0], col+by[1])
			}
		}
	}
}

func TestSubByHand(t *testing.T) {
	for _, x := range []struct{ a, b, want []api.Rect }{
		{nil, nil, nil},
		{list(), list(), nil},
		{nil, list(rect(0, 0, 5, 5)), nil},
		{list(rect(0, 0, 5, 5)), nil, list(rect(0, 0, 5, 5))},
		{list(rect(0, 0, 5, 5)), list(rect(0, 0, 5, 5)), nil},
		{list(rect(1, 1, 3, 3)), list(rect(0, 0, 5, 5)), nil},
		{list(rect(0, 0, 3, 3)), list(rect(1, 1, 2, 2)), list(rect(0, 0, 1, 3), rect(1, 0, 2, 1), rect(1, 2, 2, 3), rect(2, 0, 3, 3))},
		{list(rect(0, 0, 3, 3)), list(rect(0, 3, 3, 5), rect(3, 0, 5, 3)), list(rect(0, 0, 3, 3))},
		{list(rect(0, 2, 6, 4)), list(rect(2, 0, 4, 6)), list(rect(0, 2, 2, 4), rect(4, 2, 6, 4))},
		{list(rect(0, 0, 2, 2), rect(2, 0, 4, 3)), list(rect(0, 2, 9, 9)), list(rect(0, 0, 4, 2))},
		{list(rect(0, 0, 1, 3), rect(0, 5, 1, 8)), list(rect(0, 1, 1, 6)), list(rect(0, 0, 1, 1), rect(0, 6, 1, 8))},
		{list(rect(0, 0, 1, 9)), list(rect(0, 6, 1, 7), rect(0, 2, 1, 4)), list(rect(0, 0, 1, 2), rect(0, 4, 1, 6), rect(0, 7, 1, 9))},
		{list(rect(0, 0, edge, edge)), list(rect(1, 1, edge, edge)), list(rect(0, 0, 1, edge), rect(1, 0, edge, 1))},
		{list(rect(0, 0, edge, edge)), list(rect(0, 0, edge-1, edge)), list(rect(edge-1, 0, edge, edge))},
		{list(rect(0, 0, 5, 5)), list(rect(0, 0, edge+1, 5), rect(-1, 0, 5, 5), rect(5, 5, 0, 0)), list(rect(0, 0, 5, 5))},
		{list(rect(0, 0, edge+1, 5), rect(-1, 0, 5, 5), rect(0, 0, 2, 2)), list(rect(0, 0, 1, 2)), list(rect(1, 0, 2, 2))},
	} {
		wantList(t, "Sub", Sub(x.a, x.b...), x.want)
	}
}

// Those that may not be count nowhere, wherever they stand.
func TestBarred(t *testing.T) {
	some := list(rect(1, 1, 3, 3), rect(2, 2, 5, 6))
	for _, wrong := range barred() {
		for _, rs := range [][]api.Rect{list(wrong, some[0], some[1]), list(some[0], wrong, some[1]), list(some[0], some[1], wrong, wrong)} {
			wantList(t, "Norm", Norm(rs...), Norm(some...))
			wantList(t, "Sub", Sub(rs, rect(1, 1, 2, 2)), Sub(some, rect(1, 1, 2, 2)))
			wantList(t, "Sub", Sub(list(rect(0, 0, 9, 9)), rs...), Sub(list(rect(0, 0, 9, 9)), some...))
			wantList(t, "Image on rows", Image(rs, true, ins(2)), Image(some, true, ins(2)))
			wantList(t, "Image on columns", Image(rs, false, move(2, 7)), Image(some, false, move(2, 7)))
			if Area(rs, 1000) != 15 || !Eq(rs, some) || !Eq(some, rs) || Has(rs, 0, 0) || !Has(rs, 1, 1) {
				t.Fatalf("P4.1: Area, Eq or Has of %v", rs)
			}
		}
		wantNothing(t, list(wrong))
	}
	wantNothing(t, barred())
	wantNothing(t, nil)
	wantNothing(t, list())
}

func wantNothing(t *testing.T, rs []api.Rect) {
	t.Helper()
	wantList(t, "Norm", Norm(rs...), nil)
	wantList(t, "Sub", Sub(rs, rs...), nil)
	wantList(t, "Sub", Sub(list(rect(0, 0, 5, 5)), rs...), list(rect(0, 0, 5, 5)))
	for _, l := range append(allLines(3), barredLines()...) {
		wantList(t, "Image", Image(rs, true, l), nil)
		wantList(t, "Image", Image(rs, false, l), nil)
	}
	if Area(rs, math.MaxInt64) != 0 || Area(rs, -1) != 0 || !Eq(rs, nil) || !Eq(nil, rs) || Eq(rs, list(rect(0, 0, 1, 1))) || Eq(list(rect(0, 0, 1, 1)), rs) {
		t.Fatalf("P4.1: Area or Eq of %v", rs)
	}
	for _, at := range []int64{math.MinInt64, -1, 0, 1, 4, edge - 1, edge, math.MaxInt64} {
		if Has(rs, at, at) || Has(rs, 0, at) || Has(rs, at, 0) {
			t.Fatalf("P4.1: %v have a cell at %d", rs, at)
		}
	}
}

func TestHas(t *testing.T) {
	rs := list(rect(2, 3, 4, 6), rect(edge-1, edge-2, edge, edge))
	for _, x := range []struct {
		row, col int64
		want     bool
	}{
		{2, 3, true}, {3, 5, true}, {2, 5, true}, {3, 3, true}, {1, 3, false}, {4, 3, false}, {2, 2, false}, {2, 6, false},
		{edge - 1, edge - 1, true}, {edge - 1, edge - 2, true}, {edge - 1, edge - 3, false}, {edge - 2, edge - 1, false}, {edge, edge - 1, false}, {edge - 1, edge, false},
		{2, edge - 1, false}, {edge - 1, 3, false}, {-1, 3, false}, {2, -1, false}, {math.MinInt64, math.MinInt64, false}, {math.MaxInt64, math.MaxInt64, false},
	} {
		if got := Has(rs, x.row, x.col); got != x.want {
			t.Errorf("P4.1: Has(%v, %d, %d): %v", rs, x.row, x.col, got)
		}
	}
	all := list(rect(0, 0, edge, edge))
	if !Has(all, 0, 0) || !Has(all, edge-1, edge-1) || Has(all, edge, 0) || Has(all, 0, edge) || Has(all, -1, 0) || Has(all, 0, -1) {
		t.Errorf("P4.1: Has of %v", all)
	}
}

func TestArea(t *testing.T) {
	const max64 = math.MaxInt64
	twelve := list(rect(0, 0, 3, 3), rect(0, 2, 3, 4), rect(1, 1, 2, 2), rect(0, 0, 3, 3))
	all := list(rect(0, 0, edge, edge))
	// 2^63 - 1 and one less: some full rows, and one that is not full.
	exact := list(rect(0, 0, 1<<21-1, edge), rect(1<<21-1, 0, 1<<21, edge-1))
	fewer := list(rect(0, 0, 1<<21-1, edge), rect(1<<21-1, 0, 1<<21, edge-2))
	// These wrap to 0, and to a little more than 0, in 64 bits.
	zero := list(rect(0, 0, 1<<32, 1<<32))
	little := list(rect(0, 0, 1<<32, 1<<32), rect(1<<33, 0, 1<<33+1, 3))
	double := list(rect(0, 0, 1<<31, 1<<32), rect(1<<40, 0, 1<<40+1<<31, 1<<32))
	half := list(rect(0, 0, 1<<31, 1<<31))
	for _, x := range []struct {
		rs         []api.Rect
		most, want int64
	}{
		{twelve, 12, 12}, {twelve, 11, 11}, {twelve, 13, 12}, {twelve, 1, 1}, {twelve, 0, 0}, {twelve, -1, 0}, {twelve, math.MinInt64, 0}, {twelve, max64, 12},
		{all, max64, max64}, {all, max64 - 1, max64 - 1}, {all, 1, 1}, {all, 0, 0}, {all, -1, 0}, {all, edge, edge}, {all, math.MinInt64, 0},
		{exact, max64, max64}, {exact, max64 - 1, max64 - 1}, {exact, 5, 5}, {fewer, max64, max64 - 1}, {fewer, max64 - 1, max64 - 1}, {fewer, max64 - 2, max64 - 2},
		{zero, 10, 10}, {zero, max64, max64}, {little, 2, 2}, {little, 10, 10}, {little, max64, max64}, {double, max64, max64}, {double, 7, 7},
		{half, 1 << 62, 1 << 62}, {half, 1<<62 - 1, 1<<62 - 1}, {half, 1<<62 + 1, 1 << 62}, {half, max64, 1 << 62},
		{append(list(rect(5, 5, 6, 6)), all...), max64, max64}, {append(half, half...), max64, 1 << 62},
	} {
		if got := Area(x.rs, x.most); got != x.want {
			t.Errorf("P4.1: Area(%v, %d): %d; want %d", x.rs, x.most, got, x.want)
		}
	}
}

func TestImageOfAllRects(t *testing.T) {
	const n = int64(6)
	for _, r := range allRects(n) {
		p := pictureOf(list(r))
		for _, l := range allLines(n + 2) {
			wantList(t, "Image on rows", Image(list(r), true, l), p.done(l).rects())
			wantList(t, "Image on columns", Image(list(r), false, l), p.turned().done(l).turned().rects())
		}
	}
}

func TestImageOfLists(t *testing.T) {
	d := dice(13)
	lines := allLines(width - 3)
	for range 3000 {
		rs := d.rects(7)
		p := pictureOf(rs)
		l := lines[d.next(int64(len(lines)))]
		wantList(t, "Image on rows", Image(rs, true, l), p.done(l).rects())
		wantList(t, "Image on columns", Image(rs, false, l), p.turned().done(l).turned().rects())
	}
}

func TestImageByHand(t *testing.T) {
	box := list(rect(2, 1, 5, 3))
	for _, x := range []struct {
		l          api.Line
		rows, cols []api.Rect
	}{
		// A new line ahead of the box, at its beginning, in it, at its end, behind it.
		{ins(0), list(rect(3, 1, 6, 3)), list(rect(2, 2, 5, 4))},
		{ins(1), list(rect(3, 1, 6, 3)), list(rect(2, 2, 5, 4))},
		{ins(2), list(rect(3, 1, 6, 3)), list(rect(2, 1, 5, 2), rect(2, 3, 5, 4))},
		{ins(3), list(rect(2, 1, 3, 3), rect(4, 1, 6, 3)), list(rect(2, 1, 5, 3))},
		{ins(4), list(rect(2, 1, 4, 3), rect(5, 1, 6, 3)), list(rect(2, 1, 5, 3))},
		{ins(5), box, box},
		{ins(last), box, box},
		// A line that goes.
		{del(0), list(rect(1, 1, 4, 3)), list(rect(2, 0, 5, 2))},
		{del(1), list(rect(1, 1, 4, 3)), list(rect(2, 1, 5, 2))},
		{del(2), list(rect(2, 1, 4, 3)), list(rect(2, 1, 5, 2))},
		{del(4), list(rect(2, 1, 4, 3)), box},
		{del(5), box, box},
		{del(last), box, box},
		// A move into the box, out of it, within it, over it, and away from it.
		{move(0, 3), list(rect(1, 1, 2, 3), rect(3, 1, 5, 3)), list(rect(2, 0, 5, 2))},
		{move(7, 3), list(rect(2, 1, 3, 3), rect(4, 1, 6, 3)), box},
		{move(7, 2), list(rect(3, 1, 6, 3)), list(rect(2, 1, 5, 2), rect(2, 3, 5, 4))},
		{move(3, 0), list(rect(0, 1, 1, 3), rect(3, 1, 5, 3)), list(rect(2, 2, 5, 4))},
		{move(3, 8), list(rect(2, 1, 4, 3), rect(7, 1, 8, 3)), box},
		{move(2, 5), box, list(rect(2, 1, 5, 2), rect(2, 4, 5, 5))},
		{move(2, 4), box, list(rect(2, 1, 5, 2), rect(2, 3, 5, 4))},
		{move(4, 2), box, list(rect(2, 1, 5, 2), rect(2, 3, 5, 4))},
		{move(0, 8), list(rect(1, 1, 4, 3)), list(rect(2, 0, 5, 2))},
		{move(8, 0), list(rect(3, 1, 6, 3)), list(rect(2, 2, 5, 4))},
		{move(6, 9), box, box},
		{move(last, 0), list(rect(3, 1, 6, 3)), list(rect(2, 2, 5, 4))},
		{move(0, last), list(rect(1, 1, 4, 3)), list(rect(2, 0, 5, 2))},
	} {
		wantList(t, "Image on rows", Image(box, true, x.l), x.rows)
		wantList(t, "Image on columns", Image(box, false, x.l), x.cols)
	}
	// The only line goes; bands and ranges come to touch, and come apart.
	wantList(t, "Image", Image(list(rect(3, 1, 4, 3)), true, del(3)), nil)
	wantList(t, "Image", Image(list(rect(1, 3, 3, 4)), false, del(3)), nil)
	wantList(t, "Image", Image(list(rect(0, 0, 1, 5), rect(2, 0, 3, 5)), true, del(1)), list(rect(0, 0, 2, 5)))
	wantList(t, "Image", Image(list(rect(0, 0, 5, 1), rect(0, 2, 5, 3)), false, del(1)), list(rect(0, 0, 5, 2)))
	wantList(t, "Image", Image(list(rect(0, 0, 1, 5), rect(3, 0, 4, 5)), true, move(0, 3)), list(rect(2, 0, 4, 5)))
	wantList(t, "Image", Image(list(rect(0, 0, 2, 2), rect(2, 0, 4, 3)), true, ins(2)), list(rect(0, 0, 2, 2), rect(3, 0, 5, 3)))
}

func TestImageAtEdges(t *testing.T) {
	all := list(rect(0, 0, edge, edge))
	for _, x := range []struct {
		l    api.Line
		rows []api.Rect
	}{
		// The cells go where they go, beyond 2^42 too.
		{ins(0), list(rect(1, 0, edge+1, edge))},
		{ins(5), list(rect(0, 0, 5, edge), rect(6, 0, edge+1, edge))},
		{ins(last), list(rect(0, 0, last, edge), rect(last+1, 0, edge+1, edge))},
		{del(0), list(rect(0, 0, edge-1, edge))},
		{del(last), list(rect(0, 0, edge-1, edge))},
		{move(0, last), all},
		{move(last, 0), all},
	} {
		cols := make([]api.Rect, len(x.rows))
		for i, r := range x.rows {
			cols[i] = rect(r.C0, r.R0, r.C1, r.R1)
		}
		wantList(t, "Image on rows", Image(all, true, x.l), x.rows)
		wantList(t, "Image on columns", Image(all, false, x.l), cols)
	}
	corner := list(rect(edge-1, edge-1, edge, edge))
	wantList(t, "Image", Image(corner, true, ins(0)), list(rect(edge, edge-1, edge+1, edge)))
	wantList(t, "Image", Image(corner, false, ins(0)), list(rect(edge-1, edge, edge, edge+1)))
	wantList(t, "Image", Image(corner, true, del(0)), list(rect(edge-2, edge-1, edge-1, edge)))
	wantList(t, "Image", Image(corner, false, move(0, last)), corner)
	wantList(t, "Image", Image(list(rect(last, 0, last+1, 1)), true, move(last, 0)), list(rect(0, 0, 1, 1)))
	wantList(t, "Image", Image(list(rect(0, 0, 1, 1)), true, move(0, last)), list(rect(last-1, 0, last, 1)))
}

func TestImageOfBarredLines(t *testing.T) {
	d := dice(17)
	for _, l := range barredLines() {
		for range 20 {
			rs := append(d.rects(6), rect(3, 0, 3, 1))
			wantList(t, "Image on rows", Image(rs, true, l), Norm(rs...))
			wantList(t, "Image on columns", Image(rs, false, l), Norm(rs...))
		}
	}
}

func TestEq(t *testing.T) {
	a := list(rect(0, 0, 2, 2), rect(2, 0, 3, 2))
	for _, x := range []struct {
		a, b []api.Rect
		want bool
	}{
		{nil, nil, true}, {nil, list(), true}, {a, a, true}, {a, list(rect(0, 0, 3, 2)), true}, {a, list(rect(0, 1, 3, 2), rect(0, 0, 3, 1)), true}, {a, append(a, a...), true},
		{a, nil, false}, {a, a[:1], false}, {a, list(rect(0, 0, 3, 3)), false}, {a, list(rect(0, 0, 2, 3)), false}, {a, shifted(a, 1, 0), false}, {a, shifted(a, 0, 1), false},
		{list(rect(0, 0, edge, edge)), list(rect(0, 0, edge, edge-1)), false}, {list(rect(0, 0, edge, edge)), list(rect(0, 0, edge, edge-1), rect(0, edge-1, edge, edge)), true},
	} {
		if Eq(x.a, x.b) != x.want || Eq(x.b, x.a) != x.want {
			t.Errorf("P4.1: Eq(%v, %v): not %v", x.a, x.b, x.want)
		}
	}
}

// Of 255, 256 and 257 rectangles the first 256 count, whether they may be or not.
func TestLongLists(t *testing.T) {
	for _, n := range []int64{most - 1, most, most + 1, most + 2, 3 * most} {
		rs := stripes(n)
		wantCounted(t, rs, rs[:min(n, most)])
		for i, wrong := range barred() {
			with := slices.Clone(rs)
			with[i] = wrong
			with[min(n, most)-1] = wrong
			part := slices.Clone(with[:min(n, most)-1])
			wantCounted(t, with, slices.Delete(part, i, i+1))
		}
	}
	none := make([]api.Rect, most)
	wantCounted(t, append(none, rect(0, 0, 1, 1)), nil)
	wantCounted(t, append(none[1:], rect(0, 0, 1, 1)), list(rect(0, 0, 1, 1)))
	// The same ones count too, each time.
	same := slices.Repeat(list(rect(0, 0, 1, 1)), most)
	wantCounted(t, append(same, rect(4, 4, 5, 5)), list(rect(0, 0, 1, 1)))
}

// wantCounted looks for those of rs that count, which are in normal form, in every call.
func wantCounted(t *testing.T, rs, want []api.Rect) {
	t.Helper()
	wantList(t, "Norm", Norm(rs...), want)
	wantList(t, "Sub", Sub(rs), want)
	wantList(t, "Sub", Sub(list(rect(0, 0, edge, edge)), rs...), Sub(list(rect(0, 0, edge, edge)), want...))
	wantList(t, "Sub", Sub(rs, rs...), nil)
	wantList(t, "Image on rows", Image(rs, true, ins(0)), shifted(want, 1, 0))
	wantList(t, "Image on columns", Image(rs, false, ins(0)), shifted(want, 0, 1))
	wantList(t, "Image of no line", Image(rs, true, api.Line{}), want)
	if got := Area(rs, math.MaxInt64); got != int64(len(want)) {
		t.Fatalf("P4.1: Area of %d rectangles: %d; want %d", len(rs), got, len(want))
	}
	if !Eq(rs, want) || !Eq(want, rs) {
		t.Fatalf("P4.1: Eq of %d rectangles and those that count", len(rs))
	}
	for _, r := range rs {
		if May(r) && Has(rs, r.R0, r.C0) != slices.Contains(want, r) {
			t.Fatalf("P4.1: Has of %d rectangles, %v", len(rs), r)
		}
	}
}

// What comes back may well be longer than what counts.
func TestLongAnswers(t *testing.T) {
	grid := func(across, down int64) []api.Rect {
		var out []api.Rect
		for row := range down {
			for col := range across {
				out = append(out, rect(2*row, 2*col, 2*row+1, 2*col+1))
			}
		}
		return out
	}
	var between []api.Rect
	for i := range int64(most - 1) {
		between = append(between, rect(2*i+1, 0, 2*i+2, edge))
	}
	high := int64(2*most - 1)
	wantList(t, "Sub", Sub(posts(most, high), between...), grid(most, most))
	wantList(t, "Sub, turned", Sub(list(rect(0, 0, 1, edge)), posts(most, 1)...)[:2], list(rect(0, 1, 1, 2), rect(0, 3, 1, 4)))
	if got := len(Norm(append(posts(most/2, high), between[:most/2]...)...)); got != most/2*(most/2+1)+most/2 {
		t.Errorf("P4.1: Norm of posts and bars: %d rectangles", got)
	}
	want := append(posts(most, 1), shifted(posts(most, high-1), 2, 0)...)
	wantList(t, "Image on rows", Image(posts(most, high), true, ins(1)), want)
	wantList(t, "Image on rows", Image(posts(most, high), true, move(0, 1<<40)), append(posts(most, high-1), shifted(posts(most, 1), 1<<40-1, 0)...))
	var apart []api.Rect
	for _, r := range stripes(most) {
		apart = append(apart, r, rect(r.R0, 2, r.R1, 5))
	}
	var wide []api.Rect
	for _, r := range stripes(most) {
		wide = append(wide, rect(r.R0, 0, r.R1, 4))
	}
	wantList(t, "Image on columns", Image(wide, false, ins(1)), apart)
}

// spared is rs with spare room behind it that is filled.
func spared(rs []api.Rect) []api.Rect {
	full := append(slices.Clone(rs), rect(7, 7, 8, 8), rect(9, 9, 10, 10), rect(-3, -3, -3, -3))
	return full[:len(rs)]
}

func room(rs []api.Rect) []api.Rect { return slices.Clone(rs[:cap(rs)]) }

func TestMemory(t *testing.T) {
	one, many := list(rect(1, 2, 3, 4)), append(list(rect(5, 1, 9, 3), rect(0, 0, 2, 2), rect(0, 2, 2, 9), rect(4, 4, 4, 4)), stripes(most)...)
	for _, rs := range [][]api.Rect{nil, one, many, stripes(most + 9), barred()} {
		a, b := spared(rs), spared(list(rect(0, 1, 1, 2), rect(1, 1, 6, 2)))
		wasA, wasB := room(a), room(b)
		calls := []func() []api.Rect{
			func() []api.Rect { return Norm(a...) },
			func() []api.Rect { return Sub(a, b...) },
			func() []api.Rect { return Sub(b, a...) },
			func() []api.Rect { return Sub(a) },
			func() []api.Rect { return Image(a, true, ins(2)) },
			func() []api.Rect { return Image(a, false, del(1)) },
			func() []api.Rect { return Image(a, true, move(1, 4)) },
			func() []api.Rect { return Image(a, true, ins(last)) },
			func() []api.Rect { return Image(a, true, api.Line{}) },
		}
		for i, call := range calls {
			first := call()
			kept := slices.Clone(first)
			for j := range first[:cap(first)] {
				first[:cap(first)][j] = rect(-8, -8, -8, -8)
			}
			if !slices.Equal(room(a), wasA) || !slices.Equal(room(b), wasB) {
				t.Fatalf("P0.3: call %d, or a write into what it answered, changed a list that was handed in", i)
			}
			wantList(t, "P0.3: a call behind a write into its last answer", call(), kept)
		}
		Area(a, 100)
		Has(a, 1, 1)
		Eq(a, b)
		if !slices.Equal(room(a), wasA) || !slices.Equal(room(b), wasB) {
			t.Fatalf("P0.3: Area, Has or Eq changed a list that was handed in")
		}
		wantKeptApart(t, a, calls)
	}
}

// wantKeptApart writes into a list that was handed in, behind the calls, and looks at what they answered.
func wantKeptApart(t *testing.T, a []api.Rect, calls []func() []api.Rect) {
	t.Helper()
	var answers, copies [][]api.Rect
	for _, call := range calls {
		answers = append(answers, call())
		copies = append(copies, slices.Clone(answers[len(answers)-1]))
	}
	for j := range a[:cap(a)] {
		a[:cap(a)][j] = rect(-9, -9, -9, -9)
	}
	for i := range answers {
		wantList(t, "P0.3: an answer behind a write into the list", answers[i], copies[i])
	}
}
