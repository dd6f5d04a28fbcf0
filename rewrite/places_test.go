package rewrite

import (
	"slices"
	"testing"

	"counterpane/api"
	"counterpane/parse"
)

// Trees of which one list of kids stands at many places.

// row is n references, each to a row of its own, from the row from on.
func row(from, n int) []api.Expr {
	l := make([]api.Expr, n)
	for i := range l {
		l[i] = ref(api.Ref{Row: int64(from + i), Col: 1})
	}
	return l
}

// times is a call of which all kids are e, so that they stand on the same lists.
func times(n int, e api.Expr) api.Expr {
	return call("SUM", slices.Repeat([]api.Expr{e}, n)...)
}

// lain is e with all its lists apart in memory.
func lain(e api.Expr) api.Expr {
	e.Refs, e.Kids = slices.Clone(e.Refs), slices.Clone(e.Kids)
	for i, kid := range e.Kids {
		e.Kids[i] = lain(kid)
	}
	return e
}

// suffixes is a tree of overlapping lists: the kids of each node of a list are those behind it.
func suffixes(n int) api.Expr {
	l := row(0, n)
	for i := range l {
		l[i].Kids = l[i+1:]
	}
	return call("F", l...)
}

// greatTrees have more nodes than are taken as they come, and few different ones.
func greatTrees() map[string]api.Expr {
	wide := call("SUM", row(0, 70000)...)
	long := api.Expr{Kind: api.XRange, Refs: modelRow(0, 30000)}
	left, right := call("F", wide, ref(api.Ref{Row: 9})), call("F", ref(api.Ref{Row: 9}), wide)
	parts := row(0, 40000)
	return map[string]api.Expr{
		"a list at two places":            times(2, wide),
		"a list at three places":          times(3, wide),
		"a list at three depths":          bin(neg(neg(wide)), "+", call("F", num(1), wide, neg(wide))),
		"a list, first a deep one":        bin(left, "-", right),
		"a short list at many places":     times(70000, call("F", row(5, 3)...)),
		"lists of lists":                  times(50, times(40, times(30, call("F", row(7, 5)...)))),
		"two sides that are the same":     doubled(18, ref(api.Ref{Sheet: there, Row: 3})),
		"two sides, and one beside":       bin(doubled(17, bin(ref(api.Ref{Row: 1}), "*", num(2))), "+", ref(api.Ref{Row: 2})),
		"lists that overlap":              suffixes(17),
		"pieces of one list":              call("F", call("F", parts[:30000]...), call("F", parts[10000:]...), api.Expr{Kind: api.XCall, Text: "F", Kids: parts[:20000]}, api.Expr{Kind: api.XCall, Text: "F", Kids: parts[20000:]}, api.Expr{Kind: api.XCall, Text: "F", Kids: parts}),
		"references at many places":       times(20, long),
		"references beside kids":          times(3, api.Expr{Kind: api.XCall, Refs: modelRow(4, 3), Kids: row(9, 50000)}),
		"a tree that is not small":        call("F", bin(wide, "+", wide), num(1), doubled(5, wide)),
		"no reference":                    times(300, times(300, num(1))),
		"no reference, then one":          bin(times(300, times(300, num(1))), "+", ref(api.Ref{Row: 4})),
		"one, then no reference":          bin(ref(api.Ref{Row: 4}), "+", times(300, times(300, num(1)))),
		"a deep list at two places":       times(2, nest(50000, ref(api.Ref{Row: 1}), neg)),
		"a deep list that leans left":     nest(40000, ref(api.Ref{Row: 1}), func(e api.Expr) api.Expr { return bin(e, "+", ref(api.Ref{Row: 2})) }),
		"a deep list that leans right":    nest(40000, ref(api.Ref{Row: 1}), func(e api.Expr) api.Expr { return bin(ref(api.Ref{Row: 2}), "+", e) }),
		"just as many as are taken":       call("F", row(0, 1<<15-1)...),
		"one more than are taken":         call("F", append(row(0, 1<<15-1), num(1))...),
		"more by one reference":           call("F", append(row(0, 1<<15-1), ref(api.Ref{}))...),
		"a node of as many as are taken":  {Kind: api.XRef, Refs: modelRow(0, 1<<16-1)},
		"a node of one more":              {Kind: api.XRef, Refs: modelRow(0, 1<<16)},
		"a node of many more, and others": call("F", ref(api.Ref{Row: 3}), api.Expr{Kind: api.XRef, Refs: modelRow(0, 1<<17)}, ref(api.Ref{Row: 4})),
	}
}

func modelRow(from, n int) []api.Ref {
	l := make([]api.Ref, n)
	for i := range l {
		l[i] = api.Ref{Row: int64(from + i), Col: 1}
	}
	return l
}

// appended adds the references of e, each node's ahead of its kids', to l.
func appended(l []api.Ref, e api.Expr) []api.Ref {
	l = append(l, e.Refs...)
	for _, kid := range e.Kids {
		l = appended(l, kid)
	}
	return l
}

func TestRefsOfListsAtManyPlaces(t *testing.T) {
	for what, e := range greatTrees() {
		want := appended(nil, e)
		got := Refs(e)
		if !slices.Equal(got, want) {
			t.Errorf("P9.1: Refs of %s has %d references, not just those %d", what, len(got), len(want))
		}
		if again := Refs(lain(e)); !slices.Equal(again, got) {
			t.Errorf("P0.5: Refs of %s hangs on where its lists lie", what)
		}
	}
	two := times(2, call("F", row(0, 70000)...))
	if got := Refs(two); len(got) != 140000 || got[69999] != (api.Ref{Row: 69999, Col: 1}) || got[70000] != (api.Ref{Col: 1}) {
		t.Errorf("P9.1: Refs of one list at two places has %d references", len(got))
	}
	if got := Refs(doubled(20, ref(api.Ref{Row: 3}))); len(got) != 1<<20 {
		t.Errorf("P9.1: Refs of a tree of 2^20 references has %d", len(got))
	}
}

// The lists of an answer lie apart, also where those of the argument do not.
func TestCopiesOfListsAtManyPlaces(t *testing.T) {
	for what, e := range greatTrees() {
		for name, got := range map[string]api.Expr{
			"Lines": Lines(e, here, here, true, ins(0)), "Sheet": Sheet(e, here, here),
		} {
			if parse.May(e) || !parse.Eq(got, e) {
				t.Errorf("P9.1: %s of %s is another", name, what)
			}
			checkMemory(t, name+" of "+what, api.Expr{}, got)
		}
		if !slices.Equal(Refs(e), appended(nil, e)) {
			t.Errorf("P0.3: %s is changed", what)
		}
	}
}

// Many nodes that are no references do not keep those from being told that are.
func TestRefsBesideTreesWithoutReferences(t *testing.T) {
	empty := []api.Expr{neg(num(1)), {Kind: api.XCall, Text: "F"}}
	empty[1].Kids = empty
	ring := api.Expr{Kind: api.XNeg, Kids: []api.Expr{{Kind: api.XNeg, Kids: []api.Expr{{Kind: api.XNeg}}}}}
	ring.Kids[0].Kids[0].Kids = ring.Kids
	a, b := ref(api.Ref{Row: 1}), ref(api.Ref{Row: 2, Col: 7})
	want := []api.Ref{a.Refs[0], b.Refs[0]}
	for what, e := range map[string]api.Expr{
		"a doubled one":         doubled(60, num(1)),
		"a long doubled one":    doubled(5000, num(1)),
		"one within itself":     empty[1],
		"a ring":                ring,
		"two within themselves": bin(bin(empty[1], "+", ring), "+", bin(ring, "+", empty[1])),
	} {
		for i, x := range []api.Expr{call("F", e, a, b), call("F", a, e, b), call("F", a, b, e), bin(neg(bin(e, "+", a)), "+", bin(e, "+", bin(b, "*", e)))} {
			if got := Refs(x); !slices.Equal(got, want) {
				t.Errorf("P9.1: Refs beside %s, %d, is %+v", what, i, got)
			}
		}
		if got := Refs(e); len(got) != 0 {
			t.Errorf("P9.1: Refs of %s is %+v", what, got)
		}
	}
	deep := times(2000, nest(100000, a, neg))
	if got := Refs(deep); !slices.Equal(got, slices.Repeat(a.Refs, 2000)) {
		t.Errorf("P9.1: Refs of one deep reference at 2000 places has %d", len(got))
	}
}

// around7 is a tree without end, of references to the rows 0 to 6 over and over, that lies in so many lists.
func around7(lists int, last bool) api.Expr {
	l := make([][]api.Expr, lists)
	for i := range l {
		l[i] = []api.Expr{ref(api.Ref{Row: int64(i % 7)}), {Kind: api.XCall, Text: "F"}}
		if !last {
			slices.Reverse(l[i])
		}
	}
	for i := range l {
		for k := range l[i] {
			if l[i][k].Kind == api.XCall {
				l[i][k].Kids = l[(i+1)%lists]
			}
		}
	}
	return api.Expr{Kind: api.XCall, Text: "F", Kids: l[0]}
}

// What Refs answers of a tree without end is a front of its references, whichever lists it lies in.
func TestRefsOfTreesWithoutEnd(t *testing.T) {
	got := Refs(around7(7, true))
	if len(got) < 10000 {
		t.Errorf("P9.1: Refs of a tree without end has %d references", len(got))
	}
	for i, r := range got {
		if r != (api.Ref{Row: int64(i % 7)}) {
			t.Fatalf("P9.1: the reference %d of a tree without end is %+v", i, r)
		}
	}
	left := Refs(around7(7, false))
	if len(left) < 10000 || len(left) > 1<<16 {
		t.Errorf("P9.1: Refs of a tree without end on its left has %d references", len(left))
	}
	for _, lists := range []int{14, 70, 7000, 70000} {
		if !slices.Equal(Refs(around7(lists, true)), got) || !slices.Equal(Refs(around7(lists, false)), left) {
			t.Errorf("P0.5: Refs of a tree without end hangs on its %d lists", lists)
		}
	}
	many := api.Expr{Kind: api.XCall, Refs: modelRow(0, 100000), Kids: make([]api.Expr, 1)}
	many.Kids[0] = many
	if got := Refs(many); len(got) == 0 || !slices.Equal(got, modelRow(0, len(got))) {
		t.Error("P9.1: Refs of many references at each node of a tree without end")
	}
	all := make([]api.Expr, 3000)
	for i := range all {
		all[i] = api.Expr{Kind: api.XCall, Kids: all, Refs: modelRow(i, 1)}
	}
	if got := Refs(all[0]); len(got) == 0 || got[0].Row != 0 {
		t.Error("P9.1: Refs of a tree of which each node is each one's kid")
	}
	if got := Lines(all[5], here, here, true, ins(0)); !parse.Eq(got, all[5]) || &got.Kids[0] == &all[0] || &got.Kids[7].Kids[0] == &all[0] {
		t.Error("P9.1, P0.3: Lines of a tree of which each node is each one's kid")
	}
}

// weighed is what e weighs, each node with its kids, one by one; -1: more than most deep.
func weighed(e api.Expr, most int) int64 {
	if most == 0 {
		return -1
	}
	n := int64(len(e.Refs))
	for _, kid := range e.Kids {
		below := weighed(kid, most-1)
		if below < 0 {
			return -1
		}
		n += below
	}
	return n
}

// tangle is a tree whose few lists stand within one another as it falls; back: within themselves too.
func (d *dice) tangle(lists int, back bool) api.Expr {
	l := make([][]api.Expr, lists)
	for i := range l {
		l[i] = make([]api.Expr, 1+d.throw(3))
	}
	for i := range l {
		for k := range l[i] {
			switch to := d.throw(lists); {
			case d.throw(2) == 0:
				l[i][k] = api.Expr{Kind: api.XRef, Refs: modelRow(10*i+k, d.throw(3))}
			case to > i || back:
				l[i][k] = api.Expr{Kind: api.XCall, Refs: modelRow(100*i+k, d.throw(2)), Kids: l[to][:1+d.throw(len(l[to]))]}
			}
		}
	}
	return api.Expr{Kind: api.XCall, Kids: l[0]}
}

func TestWeighingTangles(t *testing.T) {
	d := dice(30)
	for range 20000 {
		e := d.tangle(2+d.throw(7), false)
		list := []api.Expr{e}
		sums, ok := weigh(list, refsWeight)
		want := appended(nil, e)
		if !ok || sums[placeOf(list)].total != 40*weighed(e, 1000) {
			t.Fatalf("the references of %.200s weigh %+v", tell(e), sums[placeOf(list)])
		}
		if got := allRefs(list, sums); !slices.Equal(got, want) || cap(got) != len(want) {
			t.Fatalf("P9.1: the references of %.200s are %+v, not %+v", tell(e), got, want)
		}
		front, whole := frontRefs(list)
		if !whole || !slices.Equal(front, want) {
			t.Fatalf("P9.1: the first references of %.200s are %+v, not %+v", tell(e), front, want)
		}
	}
}

// endless says whether e has a way down that comes to references again and again, by going down each way without turning back.
func endless(e api.Expr) bool {
	reach := map[*api.Expr]map[*api.Expr]int{}
	var nodes []*api.Expr
	var visit func(list []api.Expr)
	visit = func(list []api.Expr) {
		for i := range list {
			if _, came := reach[&list[i]]; came {
				continue
			}
			reach[&list[i]] = map[*api.Expr]int{}
			nodes = append(nodes, &list[i])
			visit(list[i].Kids)
			for k := range list[i].Kids {
				reach[&list[i]][&list[i].Kids[k]] = 1
			}
		}
	}
	visit([]api.Expr{e})
	for _, mid := range nodes {
		for _, from := range nodes {
			if reach[from][mid] != 0 {
				for to := range reach[mid] {
					reach[from][to] = 1
				}
			}
		}
	}
	for _, n := range nodes {
		for to := range reach[n] {
			if reach[n][n] != 0 && len(to.Refs) > 0 {
				return true
			}
		}
	}
	return false
}

func TestTanglesWithoutEnd(t *testing.T) {
	d := dice(31)
	with, without := 0, 0
	for range 10000 {
		e := d.tangle(2+d.throw(5), true)
		if d.throw(3) == 0 {
			for i := range e.Kids {
				e.Kids[i].Refs = nil
			}
		}
		list := []api.Expr{e}
		_, ok := weigh(list, refsWeight)
		if ok == endless(e) {
			t.Fatalf("a tangle has an end: %v", ok)
		}
		if ok {
			with++
		} else {
			without++
		}
	}
	if with < 1000 || without < 1000 {
		t.Fatalf("the test's own tangles: %d with an end, %d without", with, without)
	}
}
