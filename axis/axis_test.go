package axis

import (
	"math"
	"slices"
	"testing"

	"counterpane/api"
)

const (
	last  = 1<<41 - 1 // the greatest number of an operation
	great = 1 << 60   // the greatest line or gap that may be asked for
)

func ins(at int64) api.Line      { return api.Line{Kind: api.LIns, At: at} }
func del(at int64) api.Line      { return api.Line{Kind: api.LDel, At: at} }
func move(at, to int64) api.Line { return api.Line{Kind: api.LMove, At: at, To: to} }

// all are all operations on n lines.
func all(n int64) []api.Line {
	var list []api.Line
	for at := range n + 1 {
		list = append(list, ins(at))
		if at == n {
			break
		}
		list = append(list, del(at))
		for to := range n + 1 {
			if to != at && to != at+1 {
				list = append(list, move(at, to))
			}
		}
	}
	return list
}

// barred are operations that may not be.
func barred() []api.Line {
	list := []api.Line{
		{}, {Kind: 4}, {Kind: -1}, {Kind: 4, At: 3, To: 7}, {Kind: 0, At: 3}, {Kind: math.MinInt64}, {Kind: math.MaxInt64},
		{Kind: api.LIns, To: 1}, {Kind: api.LIns, At: 3, To: 3}, {Kind: api.LIns, At: 3, To: -1}, {Kind: api.LIns, To: last},
		{Kind: api.LDel, To: 1}, {Kind: api.LDel, At: 3, To: 4}, {Kind: api.LDel, At: 3, To: -1}, {Kind: api.LDel, To: last},
		move(0, 0), move(0, 1), move(3, 3), move(3, 4), move(last-1, last-1), move(last-1, last), move(last, last), move(last, last+1),
	}
	for _, n := range []int64{-1, last + 1, great, math.MinInt64, math.MaxInt64} {
		list = append(list, ins(n), del(n), move(n, 3), move(3, n), move(n, 0), move(0, n), move(n, n))
	}
	return list
}

// rowOf is the lines 0 to n - 1.
func rowOf(n int64) []int64 {
	row := make([]int64, n)
	for i := range row {
		row[i] = int64(i)
	}
	return row
}

// done is row behind l; fresh: the new line's number. It goes from gap to gap, without a line's number being worked out.
func done(row []int64, l api.Line, fresh int64) []int64 {
	out := []int64{}
	for g := range int64(len(row)) + 1 {
		if l.Kind == api.LIns && l.At == g {
			out = append(out, fresh)
		}
		if l.Kind == api.LMove && l.To == g {
			out = append(out, row[l.At])
		}
		if g < int64(len(row)) && (l.Kind == api.LIns || l.At != g) {
			out = append(out, row[g])
		}
	}
	return out
}

// ahead is how many lines are ahead of gap g behind l.
func ahead(l api.Line, g int64, behind bool) int64 {
	count := int64(0)
	for i := range g {
		if l.Kind == api.LIns || i != l.At {
			count++
		}
	}
	comes := l.At
	if l.Kind == api.LMove {
		comes = l.To
	}
	if l.Kind != api.LDel && (comes < g || comes == g && behind) {
		count++
	}
	return count
}

func TestMay(t *testing.T) {
	list := append(all(6),
		ins(0), ins(last), del(0), del(last),
		move(0, 2), move(0, last), move(last, 0), move(last, last-1), move(last-1, 0), move(last-2, last), move(1, 0), move(5, 4),
	)
	for _, l := range list {
		if !May(l) {
			t.Errorf("Words: %v may not be", l)
		}
	}
	for _, l := range barred() {
		if May(l) {
			t.Errorf("Words: %v may be", l)
		}
	}
}

func TestIndexAndBackOfRows(t *testing.T) {
	const n, fresh = 9, 100
	for _, l := range all(7) {
		out := done(rowOf(n), l, fresh)
		for i := range int64(n) {
			if got, want := Index(l, i), int64(slices.Index(out, i)); got != want {
				t.Errorf("P3.1: Index(%v, %d): %d; want %d", l, i, got, want)
			}
		}
		for i, want := range out {
			if want == fresh {
				want = -1
			}
			if got := Back(l, int64(i)); got != want {
				t.Errorf("P3.1: Back(%v, %d): %d; want %d", l, i, got, want)
			}
		}
	}
}

func TestGapOfRows(t *testing.T) {
	for _, l := range all(7) {
		for g := range int64(10) {
			for _, behind := range []bool{false, true} {
				if got, want := Gap(l, g, behind), ahead(l, g, behind); got != want {
					t.Errorf("P3.1: Gap(%v, %d, %v): %d; want %d", l, g, behind, got, want)
				}
			}
		}
	}
}

// placed is what a row of places becomes, from place 0 on.
func placed(count int64, where func(int64) int64) []int64 {
	var got []int64
	for i := range count {
		got = append(got, where(i))
	}
	return got
}

func TestPlacesByHand(t *testing.T) {
	for _, x := range []struct {
		l                          api.Line
		index, before, after, back []int64
	}{
		{ins(0), []int64{1, 2, 3, 4, 5, 6}, []int64{0, 2, 3, 4, 5, 6}, []int64{1, 2, 3, 4, 5, 6}, []int64{-1, 0, 1, 2, 3, 4}},
		{ins(2), []int64{0, 1, 3, 4, 5, 6}, []int64{0, 1, 2, 4, 5, 6}, []int64{0, 1, 3, 4, 5, 6}, []int64{0, 1, -1, 2, 3, 4}},
		{del(0), []int64{-1, 0, 1, 2, 3, 4}, []int64{0, 0, 1, 2, 3, 4}, []int64{0, 0, 1, 2, 3, 4}, []int64{1, 2, 3, 4, 5, 6}},
		{del(2), []int64{0, 1, -1, 2, 3, 4}, []int64{0, 1, 2, 2, 3, 4}, []int64{0, 1, 2, 2, 3, 4}, []int64{0, 1, 3, 4, 5, 6}},
		{move(1, 4), []int64{0, 3, 1, 2, 4, 5}, []int64{0, 1, 1, 2, 3, 5}, []int64{0, 1, 1, 2, 4, 5}, []int64{0, 2, 3, 1, 4, 5}},
		{move(4, 1), []int64{0, 2, 3, 4, 1, 5}, []int64{0, 1, 3, 4, 5, 5}, []int64{0, 2, 3, 4, 5, 5}, []int64{0, 4, 1, 2, 3, 5}},
		{move(3, 2), []int64{0, 1, 3, 2, 4, 5}, []int64{0, 1, 2, 4, 4, 5}, []int64{0, 1, 3, 4, 4, 5}, []int64{0, 1, 3, 2, 4, 5}},
		{move(2, 4), []int64{0, 1, 3, 2, 4, 5}, []int64{0, 1, 2, 2, 3, 5}, []int64{0, 1, 2, 2, 4, 5}, []int64{0, 1, 3, 2, 4, 5}},
	} {
		if got := placed(6, func(i int64) int64 { return Index(x.l, i) }); !slices.Equal(got, x.index) {
			t.Errorf("P3.1: Index of %v: %v; want %v", x.l, got, x.index)
		}
		if got := placed(6, func(g int64) int64 { return Gap(x.l, g, false) }); !slices.Equal(got, x.before) {
			t.Errorf("P3.1: Gap of %v, not behind: %v; want %v", x.l, got, x.before)
		}
		if got := placed(6, func(g int64) int64 { return Gap(x.l, g, true) }); !slices.Equal(got, x.after) {
			t.Errorf("P3.1: Gap of %v, behind: %v; want %v", x.l, got, x.after)
		}
		if got := placed(6, func(i int64) int64 { return Back(x.l, i) }); !slices.Equal(got, x.back) {
			t.Errorf("P3.1: Back of %v: %v; want %v", x.l, got, x.back)
		}
	}
}

func TestPlacesAtEdges(t *testing.T) {
	for _, x := range []struct {
		l                             api.Line
		i, index, before, after, back int64
	}{
		{ins(0), great, great + 1, great + 1, great + 1, great - 1},
		{ins(0), great - 1, great, great, great, great - 2},
		{ins(last), great, great + 1, great + 1, great + 1, great - 1},
		{ins(last), last, last + 1, last, last + 1, -1},
		{ins(last), last - 1, last - 1, last - 1, last - 1, last - 1},
		{ins(last), last + 1, last + 2, last + 2, last + 2, last},
		{ins(last), 0, 0, 0, 0, 0},
		{del(0), great, great - 1, great - 1, great - 1, great + 1},
		{del(0), great - 1, great - 2, great - 2, great - 2, great},
		{del(last), last, -1, last, last, last + 1},
		{del(last), last + 1, last, last, last, last + 2},
		{del(last), last - 1, last - 1, last - 1, last - 1, last - 1},
		{del(last), 0, 0, 0, 0, 0},
		{move(0, last), great, great, great, great, great},
		{move(0, last), great - 1, great - 1, great - 1, great - 1, great - 1},
		{move(0, last), 0, last - 1, 0, 0, 1},
		{move(0, last), last, last, last - 1, last, last},
		{move(0, last), last - 1, last - 2, last - 2, last - 2, 0},
		{move(last, 0), great, great, great, great, great},
		{move(last, 0), 0, 1, 0, 1, last},
		{move(last, 0), last, 0, last + 1, last + 1, last - 1},
		{move(last, 0), last + 1, last + 1, last + 1, last + 1, last + 1},
	} {
		if got := Index(x.l, x.i); got != x.index {
			t.Errorf("P3.1: Index(%v, %d): %d; want %d", x.l, x.i, got, x.index)
		}
		if got := Gap(x.l, x.i, false); got != x.before {
			t.Errorf("P3.1: Gap(%v, %d, false): %d; want %d", x.l, x.i, got, x.before)
		}
		if got := Gap(x.l, x.i, true); got != x.after {
			t.Errorf("P3.1: Gap(%v, %d, true): %d; want %d", x.l, x.i, got, x.after)
		}
		if got := Back(x.l, x.i); got != x.back {
			t.Errorf("P3.1: Back(%v, %d): %d; want %d", x.l, x.i, got, x.back)
		}
	}
}

func wantNowhere(t *testing.T, l api.Line, i int64) {
	t.Helper()
	if index, back := Index(l, i), Back(l, i); index != -1 || back != -1 {
		t.Errorf("P3.1: Index and Back of %v, %d: %d, %d; want -1", l, i, index, back)
	}
	if before, after := Gap(l, i, false), Gap(l, i, true); before != -1 || after != -1 {
		t.Errorf("P3.1: Gap of %v, %d, not behind and behind: %d, %d; want -1", l, i, before, after)
	}
}

func TestPlacesThatAreNone(t *testing.T) {
	for _, l := range append(all(4), ins(last), del(last), move(0, last), move(last, 0)) {
		for _, i := range []int64{-1, -2, math.MinInt64, great + 1, great + 2, math.MaxInt64} {
			wantNowhere(t, l, i)
		}
	}
	for _, l := range barred() {
		for _, i := range []int64{-1, 0, 1, 2, 3, 4, 5, 9, last - 1, last, last + 1, great, great + 1, math.MinInt64, math.MaxInt64} {
			wantNowhere(t, l, i)
		}
	}
}

// wantTransform looks for want; a zero Line: nothing.
func wantTransform(t *testing.T, a, b api.Line, prior bool, want api.Line) {
	t.Helper()
	got, ok := Transform(a, b, prior)
	if got != want || ok != (want != api.Line{}) {
		t.Errorf("P3.2: Transform(%v, %v, %v): %v, %v; want %v", a, b, prior, got, ok, want)
	}
}

func TestTransformByHand(t *testing.T) {
	nothing := api.Line{}
	for _, x := range []struct {
		a, b          api.Line
		prior, behind api.Line
	}{
		{ins(3), ins(3), ins(3), ins(4)}, {ins(3), ins(2), ins(4), ins(4)}, {ins(3), ins(4), ins(3), ins(3)},
		{ins(3), del(2), ins(2), ins(2)}, {ins(3), del(3), ins(3), ins(3)},
		{ins(4), move(1, 4), ins(3), ins(4)}, {ins(1), move(1, 4), ins(1), ins(1)}, {ins(2), move(1, 4), ins(1), ins(1)}, {ins(5), move(1, 4), ins(5), ins(5)},
		{ins(1), move(4, 1), ins(1), ins(2)}, {ins(4), move(4, 1), ins(5), ins(5)}, {ins(5), move(4, 1), ins(5), ins(5)},
		{del(3), ins(3), del(4), del(4)}, {del(3), ins(4), del(3), del(3)}, {del(3), del(3), nothing, nothing}, {del(3), del(2), del(2), del(2)}, {del(3), del(4), del(3), del(3)},
		{del(1), move(1, 4), del(3), del(3)}, {del(4), move(4, 1), del(1), del(1)}, {del(2), move(1, 4), del(1), del(1)},
		{move(1, 4), ins(4), move(1, 4), move(1, 5)}, {move(1, 4), ins(1), move(2, 5), move(2, 5)}, {move(1, 4), ins(2), move(1, 5), move(1, 5)},
		{move(4, 1), ins(1), move(5, 1), move(5, 2)},
		{move(1, 4), del(1), nothing, nothing}, {move(1, 4), del(0), move(0, 3), move(0, 3)}, {move(1, 4), del(4), move(1, 4), move(1, 4)},
		// The only line between goes, so that the move is to where the line is.
		{move(1, 3), del(2), nothing, nothing}, {move(3, 2), del(2), nothing, nothing},
		// A line that both move.
		{move(1, 4), move(1, 6), nothing, move(5, 3)}, {move(1, 4), move(1, 0), nothing, move(0, 4)}, {move(4, 1), move(4, 6), nothing, move(5, 1)},
		{move(1, 4), move(1, 4), nothing, nothing}, {move(4, 1), move(4, 1), nothing, nothing},
		// Lines of their own, to one gap.
		{move(1, 4), move(2, 4), move(1, 3), move(1, 4)}, {move(1, 4), move(6, 4), move(1, 4), move(1, 5)}, {move(6, 4), move(1, 4), move(6, 3), move(6, 4)},
		// Neighbours that change places, each by its own move.
		{move(1, 3), move(2, 1), nothing, nothing}, {move(2, 1), move(1, 3), nothing, nothing},
	} {
		wantTransform(t, x.a, x.b, true, x.prior)
		wantTransform(t, x.a, x.b, false, x.behind)
	}
}

func TestTransformAtEdges(t *testing.T) {
	nothing := api.Line{}
	for _, x := range []struct {
		a, b          api.Line
		prior, behind api.Line
	}{
		{ins(last), ins(last), ins(last), nothing}, {ins(last), ins(0), nothing, nothing}, {ins(last - 1), ins(0), ins(last), ins(last)},
		{ins(last), del(0), ins(last - 1), ins(last - 1)}, {ins(last), del(last), ins(last), ins(last)}, {ins(0), ins(last), ins(0), ins(0)},
		{ins(last), move(0, last), ins(last - 1), ins(last)}, {ins(last), move(last, 0), nothing, nothing},
		{del(last), ins(last), nothing, nothing}, {del(last), ins(0), nothing, nothing}, {del(last - 1), ins(last), del(last - 1), del(last - 1)}, {del(last - 1), ins(last - 1), del(last), del(last)},
		{del(last), del(0), del(last - 1), del(last - 1)}, {del(last), del(last), nothing, nothing}, {del(last), move(last, 0), del(0), del(0)},
		{del(last), move(0, last), del(last), del(last)}, {del(0), move(0, last), del(last - 1), del(last - 1)}, {del(0), move(last, 0), del(1), del(1)},
		{move(0, last), ins(last), move(0, last), nothing}, {move(0, last), ins(0), nothing, nothing}, {move(last, 0), ins(0), nothing, nothing}, {move(last-1, 0), ins(0), move(last, 0), move(last, 1)},
		{move(0, last), del(last), move(0, last), move(0, last)}, {move(last, 0), del(last), nothing, nothing}, {move(last, 0), del(0), move(last-1, 0), move(last-1, 0)},
		{move(0, last), move(1, last), move(0, last-1), move(0, last)}, {move(0, last), move(last, 1), nothing, nothing}, {move(last, 0), move(0, last), move(last, 0), move(last, 0)},
	} {
		wantTransform(t, x.a, x.b, true, x.prior)
		wantTransform(t, x.a, x.b, false, x.behind)
	}
}

func TestTransformOfBarred(t *testing.T) {
	for _, wrong := range barred() {
		for _, l := range append(append(all(4), ins(last), del(last), move(0, last), move(last, 0)), barred()...) {
			for _, prior := range []bool{false, true} {
				wantTransform(t, wrong, l, prior, api.Line{})
				wantTransform(t, l, wrong, prior, api.Line{})
			}
		}
	}
}

// behind is row, which b has been done on, behind a too.
func behind(row []int64, a, b api.Line, prior bool, fresh int64) []int64 {
	l, ok := Transform(a, b, prior)
	if !ok {
		return row
	}
	return done(row, l, fresh)
}

func TestSidesMeet(t *testing.T) {
	for n := range int64(8) {
		for _, a := range all(n) {
			for _, b := range all(n) {
				one := behind(done(rowOf(n), a, 100), b, a, false, 200)
				two := behind(done(rowOf(n), b, 200), a, b, true, 100)
				if !slices.Equal(one, two) {
					t.Fatalf("P3.3: of %d lines %v, which is prior, and %v: %v and %v", n, a, b, one, two)
				}
				wantKept(t, one, a, b)
			}
		}
	}
}

// wantKept looks for what a rule that meets by dropping too much would lose: new lines, and lines that nobody took away.
func wantKept(t *testing.T, row []int64, a, b api.Line) {
	t.Helper()
	if slices.Contains(row, 100) != (a.Kind == api.LIns) || slices.Contains(row, 200) != (b.Kind == api.LIns) {
		t.Fatalf("P3.3: %v, %v: the new lines of %v", a, b, row)
	}
	for _, l := range []api.Line{a, b} {
		if l.Kind == api.LDel && slices.Contains(row, l.At) {
			t.Fatalf("P3.3: %v, %v: a line that goes is in %v", a, b, row)
		}
	}
}

func shifted(l api.Line, by int64) api.Line {
	l.At += by
	if l.Kind == api.LMove {
		l.To += by
	}
	return l
}

// What holds of lines from 0 on holds of the last ones, as long as there is room.
func TestTransformOfLastLines(t *testing.T) {
	for n := range int64(6) {
		by := last - n
		for _, a := range all(n) {
			for _, b := range all(n) {
				for _, prior := range []bool{false, true} {
					want := api.Line{}
					if l, ok := Transform(a, b, prior); ok && max(l.At, l.To) <= n {
						want = shifted(l, by)
					}
					wantTransform(t, shifted(a, by), shifted(b, by), prior, want)
				}
			}
		}
	}
}
