package xform

import (
	"fmt"
	"slices"
	"testing"

	"counterpane/api"
	"counterpane/axis"
	"counterpane/op"
	"counterpane/region"
	"counterpane/sheet"
	"counterpane/show"
)

// small is operations that touch one another in most ways, all of which stand in base.
func small() []api.Op {
	var out []api.Op
	for _, id := range []string{first, other} {
		for _, text := range []string{
			"!A1 x", "!A1 ", "!B3 =B3+c0n0!A1", "!B3 =SUM(c1n1!A2:C4)&c0n0!$C4", "!C3 =c2n5!A1*A1:C3", "!B4 7", "!D4 =c0n0!B3+c1n1!B3", "!C2 'c0n0!A1",
			" row +0", " row +2", " row +3", " row +4", " row -0", " row -2", " row -3", " row 2>0", " row 2>4", " row 3>2", " row 0>3", " row 2>6", " row 3>6",
			" col +0", " col +1", " col +3", " col -1", " col -2", " col 1>0", " col 1>3", " col 2>1", " col 0>2",
			" #1 0,0,1,1", " #2 2,1,4,3", " #0 2,1,4,3", " #3 0,0,4,4", " #4 1,0,2,3 3,1,4,2", " #0 0,1,4,2",
			" rename x", " rename y", " remove",
		} {
			out = append(out, do(id+text))
		}
	}
	return append(out, do("c2n5 row -0"), do("c2n5 remove"), do("c3n1 add x"), do("c3n2 add y"))
}

// base is a workbook that has something at each place that small touches.
func base(t *testing.T) *sheet.Book {
	b := sheet.New()
	os := doAll("c1n1 add Two", "c2n5 add Three", "c0n0 #9 0,0,3,3", "c1n1 #8 1,1,5,4", "c2n5!A1 =c0n0!B3&c1n1!B3&A2")
	for _, id := range []string{first, other} {
		for row := range 5 {
			for col := range 5 {
				where, here, there := fmt.Sprintf("%s!%c%d ", id, 'A'+col, row+1), fmt.Sprintf("%c%d", 'A'+row, col+1), fmt.Sprintf("%c%d", 'B'+col, row+2)
				os = append(os, do(where+[]string{"=c0n0!" + here + "-c1n1!" + there, "=SUM(" + here + ":" + there + ")", "x" + here, "=c2n5!" + here, "=c1n1!" + here + ":$D$2&" + there}[(row+2*col)%5]))
			}
		}
	}
	if n := b.Apply(os...); n != len(os) {
		t.Fatal("the test's own workbook is not made")
	}
	return b
}

// otherWay is Op by workbooks: a is done in an empty one, then b, and what stands there then is a behind b.
func otherWay(a, b api.Op, prior bool) (api.Op, bool) {
	same := a.Sheet == b.Sheet
	if !op.May(a) || !op.May(b) || same && b.Kind == api.ORemove {
		return api.Op{}, false
	}
	if same && a.Kind == b.Kind {
		switch a.Kind {
		case api.ORow, api.OCol:
			l, ok := axis.Transform(a.Line, b.Line, prior)
			if !ok {
				return api.Op{}, false
			}
			return api.Op{Kind: a.Kind, Sheet: a.Sheet, Line: l}, true
		case api.ORename:
			if prior {
				return api.Op{}, false
			}
		}
	}
	switch a.Kind {
	case api.OSet:
		return setByBook(a, b, prior)
	case api.OFormat:
		return formatByBook(a, b, prior)
	}
	return a, true
}

func three() *sheet.Book {
	b := sheet.New()
	b.Apply(do("c1n1 add x"), do("c2n5 add x"))
	return b
}

func setByBook(a, b api.Op, prior bool) (api.Op, bool) {
	blank, book := show.Cell(a.Cell) == "", three()
	if blank {
		a.Cell.Value = api.Value{Kind: api.VBool}
	}
	book.Apply(a)
	switch b.Kind {
	case api.OSet:
		if prior {
			b.Cell = api.Cell{}
			book.Apply(b)
		}
	case api.OAdd:
	default:
		book.Apply(b)
	}
	left := book.Cells(a.Sheet)
	if len(left) == 0 {
		return api.Op{}, false
	}
	out := api.Op{Kind: api.OSet, Sheet: a.Sheet, Row: left[0].Row, Col: left[0].Col, Cell: book.Cell(left[0])}
	if blank {
		out.Cell = api.Cell{}
	}
	return out, true
}

func formatByBook(a, b api.Op, prior bool) (api.Op, bool) {
	book, n := three(), a.Format
	a.Format = 200
	book.Apply(a)
	switch b.Kind {
	case api.OFormat:
		if prior {
			b.Format = 0
			book.Apply(b)
		}
	case api.ORow, api.OCol:
		book.Apply(b)
	}
	var cells []api.Rect
	for _, at := range book.Formats(a.Sheet) {
		cells = append(cells, api.Rect{R0: at.Row, C0: at.Col, R1: at.Row + 1, C1: at.Col + 1})
	}
	out := api.Op{Kind: api.OFormat, Sheet: a.Sheet, Rects: region.Norm(cells...), Format: n}
	if len(cells) == 0 {
		return api.Op{}, false
	}
	return out, true
}

// All pairs: against the other way, and both orders as workbooks.
func TestAllPairs(t *testing.T) {
	all, start := small(), base(t)
	for _, a := range all {
		if !start.Stands(a) {
			t.Fatalf("the test's own operation %s does not stand", say(a))
		}
		for _, b := range all {
			for _, prior := range []bool{false, true} {
				got, ok := Op(a, b, prior)
				if want, there := otherWay(a, b, prior); !op.Eq(got, want) || ok != there {
					t.Errorf("P18.1: %s behind %s, prior %v: %s, %v; want %s", say(a), say(b), prior, say(got), ok, say(want))
				}
				if a.Kind != api.OAdd || a.Sheet != b.Sheet {
					bothOrders(t, start, []api.Op{a}, []api.Op{b}, prior)
				}
			}
		}
	}
}

// bothOrders does a and b in both orders, and is the workbook that comes of it.
func bothOrders(t *testing.T, start *sheet.Book, a, b []api.Op, prior bool) *sheet.Book {
	t.Helper()
	a2, b2 := Batches(a, b, prior)
	one, two := start.Copy(), start.Copy()
	if n, m := one.Apply(a...), two.Apply(b...); n != len(a) || m != len(b) {
		t.Fatalf("the test's own lists %q and %q do not stand", sayAll(a), sayAll(b))
	}
	n, m := one.Apply(b2...), two.Apply(a2...)
	if n != len(b2) || m != len(a2) || !one.Eq(two) {
		t.Fatalf("P18.2: %q and %q, prior %v: %q and %q, of which %d and %d stand, leave %s and %s",
			sayAll(a), sayAll(b), prior, sayAll(a2), sayAll(b2), m, n, toldBook(one), toldBook(two))
	}
	return one
}

func toldBook(b *sheet.Book) string {
	out := ""
	for _, id := range b.Sheets() {
		out += id + "=" + b.Name(id) + "{"
		for _, at := range b.Cells(id) {
			out += fmt.Sprintf("%d,%d:%s;", at.Row, at.Col, show.Cell(b.Cell(at)))
		}
		for _, at := range b.Formats(id) {
			out += fmt.Sprintf("%d,%d#%d;", at.Row, at.Col, b.Format(at))
		}
		out += "}"
	}
	return out
}

// from is an operation, and which one of its list it was.
type from struct {
	o     api.Op
	k     int
	there bool
}

// squares is Batches another way: by a table of squares, of which each takes one of a and one of b and hands them on, b's ones first.
func squares(a, b []api.Op, prior bool) ([]from, []from) {
	as, bs := make([]from, len(a)), make([]from, len(b))
	for i, o := range a {
		as[i] = from{o, i, true}
	}
	for j, o := range b {
		bs[j] = from{o, j, true}
		for i := range as {
			if as[i].there && bs[j].there {
				p, isA := Op(as[i].o, bs[j].o, prior)
				q, isB := Op(bs[j].o, as[i].o, !prior)
				as[i], bs[j] = from{p, i, isA}, from{q, j, isB}
			}
		}
	}
	gone := func(f from) bool { return !f.there }
	return slices.DeleteFunc(as, gone), slices.DeleteFunc(bs, gone)
}

func opsOf(fs []from) []api.Op {
	var out []api.Op
	for _, f := range fs {
		out = append(out, f.o)
	}
	return out
}

func sameOps(a, b []api.Op) bool { return slices.EqualFunc(a, b, op.Eq) }

// All lists of two on the one side, and of one or two on the other, of some operations.
func TestShortLists(t *testing.T) {
	start := base(t)
	some := doAll("c0n0!B3 =B3+c0n0!A1", "c0n0!A1 =c1n1!A2:B3", "c1n1!B3 =c0n0!B3", "c1n1!B3 ", "c0n0 row +2", "c0n0 row -2", "c0n0 row 2>0", "c0n0 row 0>3", "c0n0 col +1", "c0n0 col -1",
		"c0n0 #1 0,0,3,3", "c0n0 #2 2,1,4,3", "c0n0 rename x", "c0n0 remove", "c1n1 row -1")
	for _, a := range some {
		for _, b := range some {
			for _, c := range some {
				one, two := []api.Op{a, b}, []api.Op{c, some[5], a}
				if !start.Stands(one...) || !start.Stands(two...) {
					continue
				}
				for _, prior := range []bool{false, true} {
					bothOrders(t, start, one, two, prior)
					bothOrders(t, start, one, two[:1], prior)
					againstSquares(t, one, two, prior)
				}
			}
		}
	}
}

func againstSquares(t *testing.T, a, b []api.Op, prior bool) ([]from, []from) {
	t.Helper()
	a2, b2 := Batches(a, b, prior)
	a3, b3 := squares(a, b, prior)
	if !sameOps(a2, opsOf(a3)) || !sameOps(b2, opsOf(b3)) {
		t.Fatalf("P18.1: %q and %q, prior %v: %q and %q; want %q and %q", sayAll(a), sayAll(b), prior, sayAll(a2), sayAll(b2), sayAll(opsOf(a3)), sayAll(opsOf(b3)))
	}
	return a3, b3
}
