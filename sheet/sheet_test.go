package sheet

import (
	"fmt"
	"slices"
	"strings"
	"testing"

	"counterpane/api"
	"counterpane/show"
)

const (
	first = "c0n0"
	other = "c1n1"
	third = "c2n5"
	none  = "c9n9" // of no sheet
)

const lines = 1 << 41 // that a sheet has

// The operations that tests ask for.

func set(id string, row, col int64, s string) api.Op {
	return api.Op{Kind: api.OSet, Sheet: id, Row: row, Col: col, Cell: cell(s)}
}
func rows(id string, l api.Line) api.Op { return api.Op{Kind: api.ORow, Sheet: id, Line: l} }
func cols(id string, l api.Line) api.Op { return api.Op{Kind: api.OCol, Sheet: id, Line: l} }
func format(id string, n int, rs ...api.Rect) api.Op {
	return api.Op{Kind: api.OFormat, Sheet: id, Rects: slices.Clone(rs), Format: n}
}
func add(id, name string) api.Op    { return api.Op{Kind: api.OAdd, Sheet: id, Name: name} }
func rename(id, name string) api.Op { return api.Op{Kind: api.ORename, Sheet: id, Name: name} }
func remove(id string) api.Op       { return api.Op{Kind: api.ORemove, Sheet: id} }

func ins(at int64) api.Line      { return api.Line{Kind: api.LIns, At: at} }
func del(at int64) api.Line      { return api.Line{Kind: api.LDel, At: at} }
func move(at, to int64) api.Line { return api.Line{Kind: api.LMove, At: at, To: to} }

func rect(r0, c0, r1, c1 int64) api.Rect { return api.Rect{R0: r0, C0: c0, R1: r1, C1: c1} }

// cell is what one gets who writes s.
func cell(s string) api.Cell {
	c, err := show.Read(s)
	if err != api.OK {
		panic("the test's own cell " + s + " is none")
	}
	return c
}

// told is all that b says of its sheets.
func told(b *Book) string {
	var out strings.Builder
	for _, id := range b.Sheets() {
		fmt.Fprintf(&out, "%s=%s{", id, b.Name(id))
		for _, at := range b.Cells(id) {
			fmt.Fprintf(&out, "%d,%d:%s;", at.Row, at.Col, show.Cell(b.Cell(at)))
		}
		for _, at := range b.Formats(id) {
			fmt.Fprintf(&out, "%d,%d#%d;", at.Row, at.Col, b.Format(at))
		}
		out.WriteString("}")
	}
	return out.String()
}

func check(t *testing.T, b *Book, want string) {
	t.Helper()
	if got := told(b); got != want {
		t.Errorf("P14.1: %s; want %s", got, want)
	}
}

// apply asks first whether all would stand, which leaves the workbook as it is.
func apply(t *testing.T, b *Book, stood int, os ...api.Op) {
	t.Helper()
	before := told(b) + fmt.Sprint(b.Used())
	if got := b.Stands(os...); got != (stood == len(os)) {
		t.Errorf("P14.1: Stands of %+v is %v", os, got)
	}
	if after := told(b) + fmt.Sprint(b.Used()); after != before {
		t.Errorf("P14.1: Stands of %+v made %s of %s", os, after, before)
	}
	if got := b.Apply(os...); got != stood {
		t.Errorf("P14.1: of %+v %d stood; want %d", os, got, stood)
	}
}

func TestNew(t *testing.T) {
	b := New()
	check(t, b, "c0n0=Sheet{}")
	if got := b.Used(); !slices.Equal(got, []string{first}) {
		t.Errorf("P14.1: a new workbook has used %v", got)
	}
	// Two new workbooks have nothing in common.
	apply(t, b, 1, set(first, 0, 0, "1"))
	check(t, New(), "c0n0=Sheet{}")
}

func TestNoOperations(t *testing.T) {
	b := New()
	apply(t, b, 0)
	apply(t, b, 0, []api.Op{}...)
	check(t, b, "c0n0=Sheet{}")
	apply(t, b, 1, remove(first))
	apply(t, b, 0)
}

func TestContents(t *testing.T) {
	b := New()
	apply(t, b, 7, set(first, 2, 1, "12.5"), set(first, 0, 7, "x y"), set(first, 2, 0, "TRUE"), set(first, 0, 3, "#N/A"), set(first, 10, 0, "'"), set(first, 9, 0, "=A1+1"), set(first, 9, 1, "=#REF!"))
	check(t, b, "c0n0=Sheet{0,3:#N/A;0,7:x y;2,0:TRUE;2,1:12.5;9,0:=A1+1;9,1:=#REF!;10,0:';}")
	for at, want := range map[api.At]api.Cell{
		{Sheet: first, Row: 2, Col: 1}:  {Value: api.Value{Kind: api.VNumber, Num: 125000}},
		{Sheet: first, Row: 0, Col: 7}:  {Value: api.Value{Kind: api.VText, Text: "x y"}},
		{Sheet: first, Row: 2, Col: 0}:  {Value: api.Value{Kind: api.VBool, Bool: true}},
		{Sheet: first, Row: 0, Col: 3}:  {Value: api.Value{Kind: api.VError, Err: api.ENone}},
		{Sheet: first, Row: 10, Col: 0}: {Value: api.Value{Kind: api.VText}},
		{Sheet: first, Row: 0, Col: 0}:  {},
		{Sheet: none, Row: 2, Col: 1}:   {},
		{Row: 2, Col: 1}:                {},
	} {
		if got := b.Cell(at); got.Formula || got.Value != want.Value || got.Expr.Kind != 0 {
			t.Errorf("P14.1: the cell %v is %+v; want %+v", at, got, want)
		}
	}
	// What comes later counts; a formula and a value do not stand beside each other.
	apply(t, b, 3, set(first, 2, 1, "=B1"), set(first, 2, 1, "=B2"), set(first, 9, 0, "7"))
	check(t, b, "c0n0=Sheet{0,3:#N/A;0,7:x y;2,0:TRUE;2,1:=B2;9,0:7;9,1:=#REF!;10,0:';}")
	if c := b.Cell(api.At{Sheet: first, Row: 2, Col: 1}); !c.Formula || c.Value != (api.Value{}) || c.Expr.Kind != api.XRef {
		t.Errorf("P14.1: a formula is %+v", c)
	}
	if c := b.Cell(api.At{Sheet: first, Row: 9}); c.Formula || c.Expr.Kind != 0 {
		t.Errorf("P14.1: a value is %+v", c)
	}
}

func TestBlankTakesACellAway(t *testing.T) {
	b := New()
	apply(t, b, 4, set(first, 1, 1, "=A1"), set(first, 1, 2, "x"), set(first, 1, 3, "0"), set(first, 1, 4, "FALSE"))
	apply(t, b, 3, set(first, 1, 1, ""), set(first, 1, 2, ""), set(first, 5, 5, ""))
	check(t, b, "c0n0=Sheet{1,3:0;1,4:FALSE;}")
	apply(t, b, 2, set(first, 1, 3, ""), set(first, 1, 4, ""))
	check(t, b, "c0n0=Sheet{}")
	if !b.Eq(New()) || !New().Eq(b) {
		t.Error("P14.1: a workbook whose cells were all taken away is not as a new one")
	}
	if got := b.Cell(api.At{Sheet: first, Row: 1, Col: 1}); got.Formula || got.Expr.Kind != 0 {
		t.Errorf("P14.1: a blank cell is %+v", got)
	}
}

func TestFormats(t *testing.T) {
	b := New()
	apply(t, b, 2, format(first, 7, rect(1, 1, 3, 3)), format(first, 255, rect(0, 2, 1, 3), rect(2, 0, 3, 2)))
	check(t, b, "c0n0=Sheet{0,2#255;1,1#7;1,2#7;2,0#255;2,1#255;2,2#7;}")
	apply(t, b, 1, format(first, 0, rect(0, 0, 2, 2), rect(2, 1, 3, 2)))
	check(t, b, "c0n0=Sheet{0,2#255;1,2#7;2,0#255;2,2#7;}")
	// Contents and formats do not touch one another.
	apply(t, b, 4, set(first, 1, 2, "x"), set(first, 1, 2, ""), set(first, 0, 2, "y"), format(first, 0, rect(0, 2, 1, 3)))
	check(t, b, "c0n0=Sheet{0,2:y;1,2#7;2,0#255;2,2#7;}")
	for at, want := range map[api.At]int{{Sheet: first, Row: 1, Col: 2}: 7, {Sheet: first, Row: 2}: 255, {Sheet: first}: 0, {Sheet: none, Row: 2}: 0, {Row: 2}: 0, {Sheet: first, Row: -1, Col: -1}: 0} {
		if got := b.Format(at); got != want {
			t.Errorf("P14.1: the format of %v is %d; want %d", at, got, want)
		}
	}
	apply(t, b, 3, format(first, 0, rect(0, 0, 3, 3)), format(first, 0, rect(0, 0, 16, 16)), set(first, 0, 2, ""))
	check(t, b, "c0n0=Sheet{}")
	if !b.Eq(New()) {
		t.Error("P14.1: a workbook whose formats were all taken away is not as a new one")
	}
}

func TestFormatOfManyCells(t *testing.T) {
	b := New()
	var single []api.Rect
	for i := range int64(256) {
		single = append(single, rect(2*i, 5, 2*i+1, 6))
	}
	apply(t, b, 2, format(first, 3, single...), format(first, 4, rect(1000, 7, 1001, 263)))
	got := b.Formats(first)
	if len(got) != 512 {
		t.Fatalf("P14.1: %d cells have a format; want 512", len(got))
	}
	for i, at := range got {
		want := api.At{Sheet: first, Row: int64(2 * i), Col: 5}
		if i >= 256 {
			want = api.At{Sheet: first, Row: 1000, Col: int64(7 + i - 256)}
		}
		if at != want || b.Format(at) != 3+i/256 {
			t.Errorf("P14.1: %d: %v has the format %d", i, at, b.Format(at))
		}
	}
	apply(t, b, 1, format(first, 0, single...))
	if got := b.Formats(first); len(got) != 256 || got[0].Row != 1000 {
		t.Errorf("P14.1: %d cells keep a format; want 256", len(got))
	}
}

// sample is a workbook of two sheets whose formulas refer to both.
func sample(t *testing.T) *Book {
	b := New()
	apply(t, b, 11, add(other, "Two"), set(first, 0, 0, "=B$3+c1n1!C2"), set(first, 1, 1, "one"), set(first, 2, 2, "=SUM(A2:$C$4)*c1n1!A1:B3"),
		set(first, 3, 0, "=c0n0!A4&c2n5!B3"), set(other, 0, 2, "=A3-c0n0!C2"), set(other, 1, 1, "=c0n0!B2:B3"), set(other, 2, 0, "two"),
		format(first, 5, rect(1, 1, 3, 2)), format(other, 6, rect(0, 1, 1, 3)), format(first, 9, rect(3, 3, 4, 4)))
	check(t, b, "c0n0=Sheet{0,0:=B$3+c1n1!C2;1,1:one;2,2:=SUM(A2:$C$4)*c1n1!A1:B3;3,0:=c0n0!A4&c2n5!B3;1,1#5;2,1#5;3,3#9;}c1n1=Two{0,2:=A3-c0n0!C2;1,1:=c0n0!B2:B3;2,0:two;0,1#6;0,2#6;}")
	return b
}

func TestLines(t *testing.T) {
	for _, x := range []struct {
		o    api.Op
		want string
	}{
		{rows(first, ins(0)), "c0n0=Sheet{1,0:=B$4+c1n1!C2;2,1:one;3,2:=SUM(A3:$C$5)*c1n1!A1:B3;4,0:=c0n0!A5&c2n5!B3;2,1#5;3,1#5;4,3#9;}c1n1=Two{0,2:=A3-c0n0!C3;1,1:=c0n0!B3:B4;2,0:two;0,1#6;0,2#6;}"},
		{rows(first, ins(2)), "c0n0=Sheet{0,0:=B$4+c1n1!C2;1,1:one;3,2:=SUM(A2:$C$5)*c1n1!A1:B3;4,0:=c0n0!A5&c2n5!B3;1,1#5;3,1#5;4,3#9;}c1n1=Two{0,2:=A3-c0n0!C2;1,1:=c0n0!B2:B4;2,0:two;0,1#6;0,2#6;}"},
		{rows(first, ins(4)), "c0n0=Sheet{0,0:=B$3+c1n1!C2;1,1:one;2,2:=SUM(A2:$C$4)*c1n1!A1:B3;3,0:=c0n0!A4&c2n5!B3;1,1#5;2,1#5;3,3#9;}c1n1=Two{0,2:=A3-c0n0!C2;1,1:=c0n0!B2:B3;2,0:two;0,1#6;0,2#6;}"},
		{rows(first, del(1)), "c0n0=Sheet{0,0:=B$2+c1n1!C2;1,2:=SUM(#REF!)*c1n1!A1:B3;2,0:=c0n0!A3&c2n5!B3;1,1#5;2,3#9;}c1n1=Two{0,2:=A3-#REF!;1,1:=#REF!;2,0:two;0,1#6;0,2#6;}"},
		{rows(first, del(3)), "c0n0=Sheet{0,0:=B$3+c1n1!C2;1,1:one;2,2:=SUM(#REF!)*c1n1!A1:B3;1,1#5;2,1#5;}c1n1=Two{0,2:=A3-c0n0!C2;1,1:=c0n0!B2:B3;2,0:two;0,1#6;0,2#6;}"},
		{rows(first, move(0, 4)), "c0n0=Sheet{0,1:one;1,2:=SUM(A1:$C$3)*c1n1!A1:B3;2,0:=c0n0!A3&c2n5!B3;3,0:=B$2+c1n1!C2;0,1#5;1,1#5;2,3#9;}c1n1=Two{0,2:=A3-c0n0!C1;1,1:=c0n0!B1:B2;2,0:two;0,1#6;0,2#6;}"},
		{rows(first, move(3, 1)), "c0n0=Sheet{0,0:=B$4+c1n1!C2;1,0:=c0n0!A2&c2n5!B3;2,1:one;3,2:=SUM(A3:$C$2)*c1n1!A1:B3;1,3#9;2,1#5;3,1#5;}c1n1=Two{0,2:=A3-c0n0!C3;1,1:=c0n0!B3:B4;2,0:two;0,1#6;0,2#6;}"},
		{cols(first, ins(1)), "c0n0=Sheet{0,0:=C$3+c1n1!C2;1,2:one;2,3:=SUM(A2:$D$4)*c1n1!A1:B3;3,0:=c0n0!A4&c2n5!B3;1,2#5;2,2#5;3,4#9;}c1n1=Two{0,2:=A3-c0n0!D2;1,1:=c0n0!C2:C3;2,0:two;0,1#6;0,2#6;}"},
		{cols(first, del(1)), "c0n0=Sheet{0,0:=#REF!+c1n1!C2;2,1:=SUM(A2:$B$4)*c1n1!A1:B3;3,0:=c0n0!A4&c2n5!B3;3,2#9;}c1n1=Two{0,2:=A3-c0n0!B2;1,1:=#REF!;2,0:two;0,1#6;0,2#6;}"},
		{cols(first, move(0, 3)), "c0n0=Sheet{0,2:=A$3+c1n1!C2;1,0:one;2,1:=SUM(C2:$B$4)*c1n1!A1:B3;3,2:=c0n0!C4&c2n5!B3;1,0#5;2,0#5;3,3#9;}c1n1=Two{0,2:=A3-c0n0!B2;1,1:=c0n0!A2:A3;2,0:two;0,1#6;0,2#6;}"},
		{rows(other, ins(1)), "c0n0=Sheet{0,0:=B$3+c1n1!C3;1,1:one;2,2:=SUM(A2:$C$4)*c1n1!A1:B4;3,0:=c0n0!A4&c2n5!B3;1,1#5;2,1#5;3,3#9;}c1n1=Two{0,2:=A4-c0n0!C2;2,1:=c0n0!B2:B3;3,0:two;0,1#6;0,2#6;}"},
		{rows(other, del(0)), "c0n0=Sheet{0,0:=B$3+c1n1!C1;1,1:one;2,2:=SUM(A2:$C$4)*#REF!;3,0:=c0n0!A4&c2n5!B3;1,1#5;2,1#5;3,3#9;}c1n1=Two{0,1:=c0n0!B2:B3;1,0:two;}"},
		{cols(other, move(2, 0)), "c0n0=Sheet{0,0:=B$3+c1n1!A2;1,1:one;2,2:=SUM(A2:$C$4)*c1n1!B1:C3;3,0:=c0n0!A4&c2n5!B3;1,1#5;2,1#5;3,3#9;}c1n1=Two{0,0:=B3-c0n0!C2;1,2:=c0n0!B2:B3;2,1:two;0,0#6;0,2#6;}"},
	} {
		b := sample(t)
		apply(t, b, 1, x.o)
		t.Logf("%+v", x.o)
		check(t, b, x.want)
	}
}

// References of a formula are rewritten on from where the operation ahead sent them.
func TestSeveralLines(t *testing.T) {
	b := sample(t)
	apply(t, b, 5, rows(first, ins(2)), cols(first, del(0)), rows(other, move(0, 2)), rows(first, del(1)), cols(other, ins(0)))
	check(t, b, "c0n0=Sheet{2,1:=SUM(#REF!)*c1n1!B2:C3;2,0#5;3,2#9;}c1n1=Two{0,2:=#REF!;1,3:=B3-#REF!;2,1:two;1,2#6;1,3#6;}")
}

// A sheet may stay away: references to it are kept as they are, for it may come.
func TestLinesOfSheetsThatAreNotThere(t *testing.T) {
	b := sample(t)
	before := told(b)
	apply(t, b, 0, rows(third, ins(0)), cols(third, del(0)), rows(none, ins(0)))
	check(t, b, before)
	apply(t, b, 2, add(third, "Three"), rows(third, ins(0)))
	if got := show.Cell(b.Cell(api.At{Sheet: first, Row: 3})); got != "=c0n0!A4&c2n5!B4" {
		t.Errorf("P14.1: the reference to a sheet that came is %s", got)
	}
}

func TestFarLines(t *testing.T) {
	last := int64(lines - 1)
	start := func() *Book {
		b := New()
		apply(t, b, 10, add(other, "x"), set(first, last, 0, "row"), set(first, last-1, 1, "next"), set(first, 0, last, "col"), set(first, 1, last-1, "next"), set(first, last, last, "both"),
			format(first, 1, rect(last, 2, last+1, 3)), format(first, 2, rect(3, last-1, 4, last+1)), set(first, 5, 5, "="+far(last, last)), set(other, 5, 5, "=SUM(c0n0!"+far(last-1, last)+":"+far(0, 0)+")"))
		return b
	}
	for _, x := range []struct {
		os   []api.Op
		want string
	}{
		{nil, "c0n0=Sheet{0,L:col;1,K:next;5,5:=" + far(last, last) + ";K,1:next;L,0:row;L,L:both;3,K#2;3,L#2;L,2#1;}c1n1=x{5,5:=SUM(c0n0!" + far(last-1, last) + ":A1);}"},
		{[]api.Op{rows(first, ins(0))}, "c0n0=Sheet{1,L:col;2,K:next;6,5:=#REF!;L,1:next;4,K#2;4,L#2;}c1n1=x{5,5:=SUM(c0n0!" + far(last, last) + ":A2);}"},
		{[]api.Op{rows(first, ins(last))}, "c0n0=Sheet{0,L:col;1,K:next;5,5:=#REF!;K,1:next;3,K#2;3,L#2;}c1n1=x{5,5:=SUM(c0n0!" + far(last-1, last) + ":A1);}"},
		{[]api.Op{rows(first, ins(9)), rows(first, del(9))}, "c0n0=Sheet{0,L:col;1,K:next;5,5:=#REF!;K,1:next;3,K#2;3,L#2;}c1n1=x{5,5:=SUM(c0n0!" + far(last-1, last) + ":A1);}"},
		{[]api.Op{cols(first, ins(9))}, "c0n0=Sheet{1,L:next;5,5:=#REF!;K,1:next;L,0:row;3,L#2;L,2#1;}c1n1=x{5,5:=SUM(#REF!);}"},
		{[]api.Op{cols(first, ins(9)), cols(first, ins(9)), rows(first, ins(9)), rows(first, ins(9))}, "c0n0=Sheet{5,5:=#REF!;}c1n1=x{5,5:=SUM(#REF!);}"},
		{[]api.Op{rows(first, move(last, 0))}, "c0n0=Sheet{0,0:row;0,L:both;1,L:col;2,K:next;6,5:=" + far(0, last) + ";L,1:next;0,2#1;4,K#2;4,L#2;}c1n1=x{5,5:=SUM(c0n0!" + far(last, last) + ":A2);}"},
		{[]api.Op{rows(first, move(0, last))}, "c0n0=Sheet{0,K:next;4,5:=" + far(last, last) + ";J,1:next;K,L:col;L,0:row;L,L:both;2,K#2;2,L#2;L,2#1;}c1n1=x{5,5:=SUM(c0n0!" + far(last-2, last) + ":A2199023255551);}"},
		{[]api.Op{rows(first, del(last)), cols(first, del(last))}, "c0n0=Sheet{1,K:next;5,5:=#REF!;K,1:next;3,K#2;}c1n1=x{5,5:=SUM(#REF!);}"},
		{[]api.Op{rows(other, ins(0)), cols(other, del(last))}, "c0n0=Sheet{0,L:col;1,K:next;5,5:=" + far(last, last) + ";K,1:next;L,0:row;L,L:both;3,K#2;3,L#2;L,2#1;}c1n1=x{6,5:=SUM(c0n0!" + far(last-1, last) + ":A1);}"},
	} {
		b := start()
		apply(t, b, len(x.os), x.os...)
		got := told(b)
		for i, name := range []string{"L", "K", "J"} {
			for _, around := range []string{"{%s,", ";%s,", ",%s:", ",%s#"} {
				got = strings.ReplaceAll(got, fmt.Sprintf(around, fmt.Sprint(last-int64(i))), fmt.Sprintf(around, name))
			}
		}
		if got != x.want {
			t.Errorf("P14.1: %+v: %s; want %s", x.os, got, x.want)
		}
	}
}

// far is the text of a reference.
func far(row, col int64) string {
	return show.Formula(api.Expr{Kind: api.XRef, Refs: []api.Ref{{Row: row, Col: col}}})
}

func TestRemove(t *testing.T) {
	b := sample(t)
	apply(t, b, 1, remove(other))
	check(t, b, "c0n0=Sheet{0,0:=B$3+#REF!;1,1:one;2,2:=SUM(A2:$C$4)*#REF!;3,0:=c0n0!A4&c2n5!B3;1,1#5;2,1#5;3,3#9;}")
	b = sample(t)
	apply(t, b, 1, remove(first))
	check(t, b, "c1n1=Two{0,2:=A3-#REF!;1,1:=#REF!;2,0:two;0,1#6;0,2#6;}")
	if got := b.Used(); !slices.Equal(got, []string{first, other}) {
		t.Errorf("P14.1: used %v", got)
	}
	for _, at := range []api.At{{Sheet: first}, {Sheet: first, Row: 1, Col: 1}, {Sheet: first, Row: 3, Col: 3}} {
		if c := b.Cell(at); c.Formula || c.Value != (api.Value{}) || b.Format(at) != 0 {
			t.Errorf("P14.1: %v of a sheet that went is %s, %d", at, show.Cell(c), b.Format(at))
		}
	}
	if b.Name(first) != "" || len(b.Cells(first))+len(b.Formats(first)) != 0 {
		t.Errorf("P14.1: a sheet that went has the name %q, %d cells, %d formats", b.Name(first), len(b.Cells(first)), len(b.Formats(first)))
	}
	apply(t, b, 1, remove(other))
	check(t, b, "")
	apply(t, b, 0, set(first, 0, 0, "1"), set(other, 0, 0, "1"), add(first, "Sheet"), add(other, "Two"), rename(first, "x"), remove(first), rows(first, ins(0)))
	check(t, b, "")
	if got := b.Used(); !slices.Equal(got, []string{first, other}) {
		t.Errorf("P14.1: used %v", got)
	}
	apply(t, b, 2, add(third, "Three"), set(third, 0, 0, "=c0n0!A1+c1n1!A1"))
	check(t, b, "c2n5=Three{0,0:=c0n0!A1+c1n1!A1;}")
}

func TestNames(t *testing.T) {
	b := New()
	apply(t, b, 4, rename(first, "New name"), add(other, "~!"), add(third, "New name"), rename(other, strings.Repeat("x", 20)))
	for id, want := range map[string]string{first: "New name", other: strings.Repeat("x", 20), third: "New name", none: "", "": "", "Sheet": "", "New name": ""} {
		if got := b.Name(id); got != want {
			t.Errorf("P14.1: the name of %q is %q; want %q", id, got, want)
		}
	}
	apply(t, b, 1, rename(third, "again"))
	check(t, b, "c0n0=New name{}c1n1=xxxxxxxxxxxxxxxxxxxx{}c2n5=again{}")
}

// numbered are ids of sheets, so many of one client.
func numbered(n int) []string {
	var out []string
	for i := range n {
		out = append(out, fmt.Sprint("c7n", i))
	}
	return out
}

func TestSixteenSheets(t *testing.T) {
	b := New()
	for i, id := range numbered(15) {
		apply(t, b, 2, add(id, "x"), set(id, 0, 0, fmt.Sprint(i)))
	}
	full := told(b)
	if len(b.Sheets()) != 16 {
		t.Fatalf("P14.1: %d sheets", len(b.Sheets()))
	}
	apply(t, b, 0, add(none, "17"), set(none, 0, 0, "1"), rename(none, "x"))
	apply(t, b, 0, add(first, "again"), add("c7n3", "again"))
	check(t, b, full)
	// An id that was refused was not used.
	if got := b.Used(); len(got) != 16 || slices.Contains(got, none) {
		t.Errorf("P14.1: used %v", got)
	}
	apply(t, b, 3, remove("c7n3"), add(none, "16"), set(none, 0, 0, "1"))
	apply(t, b, 0, add("c7n3", "again"), add(third, "17"))
	if len(b.Sheets()) != 16 || len(b.Used()) != 17 {
		t.Errorf("P14.1: %d sheets, %d ids", len(b.Sheets()), len(b.Used()))
	}
	apply(t, b, 1, remove(first))
	apply(t, b, 0, add("c7n3", "again"), add(first, "again"))
	apply(t, b, 1, add(third, "16"), add(other, "17"), add(third, "17"))
}

func TestIdsThatWereUsed(t *testing.T) {
	b := New()
	apply(t, b, 1, add(first, "again"), add(other, "x"))
	apply(t, b, 3, rename(other, "y"), set(other, 0, 0, "1"), remove(other))
	apply(t, b, 0, add(other, "z"), add(other, "z"), set(other, 0, 0, "1"))
	apply(t, b, 1, remove(first), add(first, "z"), add(other, "z"))
	check(t, b, "")
	// Many more than can be there at once.
	for _, id := range numbered(100) {
		apply(t, b, 2, add(id, "x"), remove(id))
	}
	apply(t, b, 0, add("c7n0", "x"), add("c7n99", "x"))
	if got := b.Used(); len(got) != 102 {
		t.Errorf("P14.1: %d ids were used; want 102", len(got))
	}
	check(t, b, "")
}

func TestOrders(t *testing.T) {
	b := New()
	given := []string{"c15n0", "c1n10", "c1n9", "c10n1", "c2n0", "c0n999999", "c0n1", "c1n1", "c0n10"}
	for _, id := range given {
		apply(t, b, 1, add(id, "x"))
	}
	apply(t, b, 1, remove("c10n1"))
	if got, want := fmt.Sprint(b.Sheets()), "[c0n0 c0n1 c0n10 c0n999999 c15n0 c1n1 c1n10 c1n9 c2n0]"; got != want {
		t.Errorf("P14.1: the sheets are %s; want %s", got, want)
	}
	if got, want := fmt.Sprint(b.Used()), "[c0n0 c0n1 c0n10 c0n999999 c10n1 c15n0 c1n1 c1n10 c1n9 c2n0]"; got != want {
		t.Errorf("P14.1: used were %s; want %s", got, want)
	}
	nums := []int64{100, 2, 0, 1 << 40, 10, 1, 11, 9, lines - 1}
	for _, row := range nums {
		for _, col := range nums {
			apply(t, b, 2, set("c1n9", row, col, "x"), format("c1n9", 1, rect(row, col, row+1, col+1)))
		}
	}
	slices.Sort(nums)
	var want []api.At
	for _, row := range nums {
		for _, col := range nums {
			want = append(want, api.At{Sheet: "c1n9", Row: row, Col: col})
		}
	}
	if got := b.Cells("c1n9"); !slices.Equal(got, want) {
		t.Errorf("P14.1: the cells are %v; want %v", got, want)
	}
	if got := b.Formats("c1n9"); !slices.Equal(got, want) {
		t.Errorf("P14.1: the formats are %v; want %v", got, want)
	}
	for _, id := range []string{"c10n1", none, "", "x", "c1n1"} {
		if len(b.Cells(id))+len(b.Formats(id)) != 0 {
			t.Errorf("P14.1: the sheet %q has cells or formats", id)
		}
	}
}

// Some stand only behind others, or no more behind others.
func TestOperationsThatHangOnOneAnother(t *testing.T) {
	for _, x := range []struct {
		stood int
		os    []api.Op
		want  string
	}{
		{3, []api.Op{add(other, "x"), set(other, 0, 0, "1"), rename(other, "y")}, "c0n0=Sheet{}c1n1=y{0,0:1;}"},
		{1, []api.Op{set(other, 0, 0, "1"), rename(other, "y"), add(other, "x")}, "c0n0=Sheet{}c1n1=x{}"},
		{1, []api.Op{add(other, "x"), add(other, "y")}, "c0n0=Sheet{}c1n1=x{}"},
		{2, []api.Op{add(other, "x"), remove(other), add(other, "y")}, "c0n0=Sheet{}"},
		{2, []api.Op{add(other, "x"), remove(other), remove(other), set(other, 0, 0, "1")}, "c0n0=Sheet{}"},
		{2, []api.Op{set(first, 0, 0, "1"), remove(first), set(first, 0, 0, "2"), rows(first, ins(0)), cols(first, ins(0)), format(first, 1, rect(0, 0, 1, 1)), rename(first, "x"), add(first, "x")}, ""},
		{2, []api.Op{set(first, 0, 0, "1"), rows(other, ins(0)), set(first, 0, 1, "2"), {}, cols(other, ins(0))}, "c0n0=Sheet{0,0:1;0,1:2;}"},
		{6, []api.Op{add(other, "x"), format(other, 1, rect(0, 0, 1, 1)), cols(other, ins(0)), rows(other, ins(0)), add(third, "y"), remove(first)}, "c1n1=x{1,1#1;}c2n5=y{}"},
	} {
		b := New()
		apply(t, b, x.stood, x.os...)
		check(t, b, x.want)
	}
	b := New()
	for _, id := range numbered(15) {
		apply(t, b, 1, add(id, "x"))
	}
	if b.Stands(add(other, "x"), remove(first)) || !b.Stands(remove(first), add(other, "x"), set(other, 0, 0, "1")) || b.Stands(remove(first), add(other, "x"), add(third, "y")) ||
		!b.Stands(remove(first), add(other, "x"), remove(other), add(third, "y")) || b.Stands(remove(first), add(other, "x"), remove(other), add(other, "y")) || !b.Stands(remove(first), remove("c7n0"), add(other, "x"), add(third, "y")) {
		t.Error("P14.1: what Stands says of sixteen sheets")
	}
	if len(b.Sheets()) != 16 || len(b.Used()) != 16 || !b.Stands(set(first, 0, 0, "1")) {
		t.Error("P14.1: Stands changed the workbook")
	}
}
