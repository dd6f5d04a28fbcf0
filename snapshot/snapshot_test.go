package snapshot

import (
	"bytes"
	"fmt"
	"math"
	"slices"
	"strings"
	"testing"

	"counterpane/api"
	"counterpane/parse"
	"counterpane/sheet"
	"counterpane/show"
)

const (
	first = "c0n0"
	other = "c1n1"
	third = "c2n5"
)

const last = 1<<41 - 1 // the last line that may be

// The operations that tests ask for.

func set(id string, row, col int64, s string) api.Op {
	return api.Op{Kind: api.OSet, Sheet: id, Row: row, Col: col, Cell: cell(s)}
}
func rows(id string, l api.Line) api.Op { return api.Op{Kind: api.ORow, Sheet: id, Line: l} }
func cols(id string, l api.Line) api.Op { return api.Op{Kind: api.OCol, Sheet: id, Line: l} }
func format(id string, n int, rs ...api.Rect) api.Op {
	return api.Op{Kind: api.OFormat, Sheet: id, Rects: slices.Clone(rs), Format: n}
}
func add(id, name string) api.Op    { return api.Op{Kind: api.OAdd, Sheet: id, Name: name} }
func rename(id, name string) api.Op { return api.Op{Kind: api.ORename, Sheet: id, Name: name} }
func remove(id string) api.Op       { return api.Op{Kind: api.ORemove, Sheet: id} }

func ins(at int64) api.Line      { return api.Line{Kind: api.LIns, At: at} }
func del(at int64) api.Line      { return api.Line{Kind: api.LDel, At: at} }
func move(at, to int64) api.Line { return api.Line{Kind: api.LMove, At: at, To: to} }

func rect(r0, c0, r1, c1 int64) api.Rect { return api.Rect{R0: r0, C0: c0, R1: r1, C1: c1} }
func one(row, col int64) api.Rect        { return rect(row, col, row+1, col+1) }

// cell is what one gets who writes s.
func cell(s string) api.Cell {
	c, err := show.Read(s)
	if err != api.OK {
		panic("the test's own cell " + s + " is none")
	}
	return c
}

// book is a workbook behind os, all of which stand.
func book(os ...api.Op) *sheet.Book {
	b := sheet.New()
	for _, o := range os {
		if b.Apply(o) != 1 {
			panic(fmt.Sprintf("the test's own operation %+v does not stand", o))
		}
	}
	return b
}

// told is all that b says.
func told(b *sheet.Book) string {
	var out strings.Builder
	for _, id := range b.Sheets() {
		fmt.Fprintf(&out, "%s=%q{", id, b.Name(id))
		for _, at := range b.Cells(id) {
			fmt.Fprintf(&out, "%d,%d:%q;", at.Row, at.Col, show.Cell(b.Cell(at)))
		}
		for _, at := range b.Formats(id) {
			fmt.Fprintf(&out, "%d,%d#%d;", at.Row, at.Col, b.Format(at))
		}
		out.WriteString("}")
	}
	return out.String() + fmt.Sprint(b.Used())
}

// check has b go there and back, and answers its bytes.
func check(t *testing.T, b *sheet.Book) []byte {
	t.Helper()
	before := told(b)
	p := Encode(b)
	if len(p) == 0 {
		t.Fatalf("P15.1: a workbook without bytes: %.300s", before)
	}
	if got := Encode(b); !bytes.Equal(got, p) {
		t.Fatalf("P0.5: Encode once more of %.300s", before)
	}
	got, err := Decode(p)
	if err != api.OK || got == nil {
		t.Fatalf("P15.1: Decode of the bytes of %.300s: %d", before, err)
	}
	if after := told(got); after != before || !got.Eq(b) || !b.Eq(got) {
		t.Fatalf("P15.1: of %.300s became %.300s", before, after)
	}
	if !bytes.Equal(Encode(got), p) {
		t.Fatalf("P15.1: Encode of what Decode gives: %.300s", before)
	}
	if told(b) != before {
		t.Fatalf("P15.1: Encode or Decode changes %.300s", before)
	}
	return p
}

func checkNone(t *testing.T, p []byte, what string) {
	t.Helper()
	if b, err := Decode(p); b != nil || err != api.ErrBytes {
		t.Errorf("P15.1: %s: %v, %d: % x", what, b != nil, err, p[:min(len(p), 100)])
	}
}

// sixteen are the ids of as many sheets as may be at once, rising.
func sixteen() []string {
	ids := []string{first}
	for i := 1; i < 16; i++ {
		ids = append(ids, fmt.Sprintf("c%dn%d", i, i*7))
	}
	slices.Sort(ids)
	return ids
}

// full has sixteen sheets, and ids ahead of them, between them and behind them that are gone.
func full() *sheet.Book {
	b := sheet.New()
	for _, id := range []string{"c0n1", "c9n999999", "c15n0", "c4n29"} {
		b.Apply(add(id, "gone"), set(id, 0, 0, "1"), remove(id))
	}
	for i, id := range sixteen() {
		b.Apply(add(id, fmt.Sprint("n", i)), set(id, int64(i), 0, fmt.Sprint("=c9n63!A", i+1)), format(id, i, one(0, int64(i))))
	}
	return b
}

// great is a formula with as many nodes as may be.
func great() string {
	of := func(n int, arg string) string { return "SUM(" + strings.Repeat(arg+",", n-1) + arg + ")" }
	return "=SUM(" + strings.Repeat(of(30, "A1")+",", 6) + of(12, "A1") + ")"
}

// deep is a formula as deep as may be.
func deep() string { return "=" + strings.Repeat("-", 49) + "A1" }

// samples are workbooks of most shapes, no two of which are the same.
func samples() map[string]*sheet.Book {
	long := strings.Repeat("ÿ", 100)
	return map[string]*sheet.Book{
		"a new one":              book(),
		"one without sheets":     book(remove(first)),
		"one other sheet":        book(add(other, "x"), remove(first)),
		"an id that went":        book(add(other, "x"), remove(other)),
		"all ids went":           book(add(other, "x"), add("c15n999999", "y"), remove(first), remove(other), remove("c15n999999")),
		"a sheet's name":         book(rename(first, "~")),
		"a name of blanks":       book(rename(first, strings.Repeat(" ", 20))),
		"several sheets":         book(add(third, "three"), add(other, "two"), set(third, 1, 1, "3"), set(other, 1, 1, "2"), set(first, 1, 1, "1")),
		"sixteen sheets":         full(),
		"sixteen with nothing":   book(adds(sixteen()[1:])...),
		"each kind":              book(set(first, 0, 0, "1"), set(first, 0, 1, "'1"), set(first, 0, 2, "TRUE"), set(first, 0, 3, "FALSE"), set(first, 0, 4, "'"), set(first, 0, 5, "0"), set(first, 0, 6, long), set(first, 0, 7, "=1")),
		"each error":             book(set(first, 0, 0, "#REF!"), set(first, 1, 0, "#CYCLE!"), set(first, 2, 0, "#DIV/0!"), set(first, 3, 0, "#NUM!"), set(first, 4, 0, "#VALUE!"), set(first, 5, 0, "#NAME?"), set(first, 6, 0, "#N/A")),
		"great numbers":          book(number(0, math.MaxInt64), number(1, math.MinInt64), number(2, -1), number(3, 1)),
		"formulas":               book(set(first, 0, 0, "=SUM(A1:$B$2,c1n1!C3,-4)*2&\"x\""), set(first, 3, 1, `=IF(A1<=2,TRUE,"""")`), set(first, 3, 0, "=c1n1!A1:B2"), set(first, 9, 9, great()), set(first, 9, 8, deep())),
		"a long formula":         book(set(first, 9, 9, great()), rows(first, move(0, last)), cols(first, move(0, last))),
		"a formula and its text": book(set(first, 0, 0, "=A1"), set(first, 0, 1, "'=A1")),
		"formats":                book(format(first, 1, rect(0, 0, 2, 3)), format(first, 255, one(1, 1)), set(first, 1, 1, "x")),
		"the ends of a sheet":    book(set(first, 0, 0, "a"), set(first, 0, last, "b"), set(first, last, 0, "c"), set(first, last, last, "d")),
		"formats at the ends":    book(format(first, 1, one(0, 0)), format(first, 2, one(0, last)), format(first, 3, one(last, 0)), format(first, 255, one(last, last))),
		"references at the ends": book(set(first, 0, 0, "=A1+A2199023255552"), set(first, last, last, "=$A$2199023255552:A1"), cols(first, move(0, last))),
		"references lost":        book(add(other, "x"), set(first, 0, 0, "=A5+c1n1!A1"), set(first, 1, 0, "=SUM(A2:A5,c1n1!B2:C3)"), set(first, 2, 0, "=A2199023255552"), rows(first, del(4)), rows(first, ins(9)), rows(first, ins(9)), remove(other)),
		"references to none":     book(set(first, 0, 0, "=c7n7!A1"), set(first, 0, 1, "=c0n0!A1")),
	}
}

func adds(ids []string) []api.Op {
	var os []api.Op
	for _, id := range ids {
		os = append(os, add(id, "Sheet"))
	}
	return os
}

// number is of one that is written in no formula or cell.
func number(row int64, n api.Fix) api.Op {
	return api.Op{Kind: api.OSet, Sheet: first, Row: row, Cell: api.Cell{Value: api.Value{Kind: api.VNumber, Num: n}}}
}

func TestThereAndBack(t *testing.T) {
	if n := parse.Count(cell(great()).Expr); n != 200 {
		t.Errorf("the test's own formula has %d nodes", n)
	}
	if _, err := show.Read(strings.Replace(deep(), "=", "=-", 1)); err != api.ErrDeep {
		t.Error("the test's own formula is not as deep as may be")
	}
	bytesOf := map[string]string{}
	for what, b := range samples() {
		p := string(check(t, b))
		if before, ok := bytesOf[p]; ok {
			t.Errorf("P15.1: %s and %s have the same bytes", what, before)
		}
		bytesOf[p] = what
	}
}

// What a workbook that was read does behind that is what the other one does.
func TestBothGoOnAlike(t *testing.T) {
	for what, b := range samples() {
		got, _ := Decode(Encode(b))
		for _, o := range []api.Op{add(first, "again"), add(other, "again"), add("c1n999", "new"), set(first, 3, 3, "=A1"), rows(first, ins(0)), cols(first, move(1, 0)), rename(first, "x"), format(first, 9, rect(0, 0, 3, 3)), add("c15n5", "more"), rows(other, del(0)), remove(other), remove(first), set(first, 0, 0, "1")} {
			if a, c := got.Apply(o), b.Apply(o); a != c {
				t.Errorf("P15.1: %s, read: %d of %+v stands; as it was: %d", what, a, o, c)
			}
			if told(got) != told(b) || !bytes.Equal(Encode(got), Encode(b)) {
				t.Errorf("P15.1: %s, read, behind %+v: %.300s; as it was: %.300s", what, o, told(got), told(b))
			}
		}
	}
}

func TestNilWorkbook(t *testing.T) {
	if p := Encode(nil); len(p) != 0 {
		t.Errorf("P15.1: Encode of nil: % x", p)
	}
	checkNone(t, nil, "no bytes")
	checkNone(t, []byte{}, "no bytes")
	checkNone(t, make([]byte, 0, 9), "no bytes")
}

// A Book that New did not make is as those that it makes.
func TestZeroBook(t *testing.T) {
	if p := check(t, new(sheet.Book)); !bytes.Equal(p, Encode(sheet.New())) {
		t.Errorf("P15.1: Encode of a zero Book: % x", p)
	}
}

// same are ways to one workbook.
func same() [][]api.Op {
	return [][]api.Op{
		{add(other, "x"), add(third, "y"), remove(third), set(first, 0, 0, "=B2"), set(first, 0, 1, "2"), format(first, 4, rect(0, 0, 1, 2)), set(other, 1, 0, "t")},
		{add(third, "z"), set(third, 0, 0, "1"), remove(third), add(other, "y"), format(first, 4, one(0, 0), one(3, 1)), format(first, 4, one(0, 1)), format(first, 0, one(3, 1)), rename(other, "x"), set(other, 1, 0, "t"), set(first, 0, 1, "2"), set(first, 0, 0, "=B2")},
		{set(first, 9, 9, "x"), set(first, 9, 9, ""), set(first, 0, 0, "1"), set(first, 0, 0, "=B3"), rows(first, del(1)), rename(first, "a"), set(first, 0, 1, "2"), rename(first, "Sheet"), add(other, "x"), set(other, 0, 0, "t"), rows(other, ins(0)), add(third, "other"), format(first, 5, one(0, 1)), remove(third), format(first, 4, rect(0, 0, 1, 2))},
		{add(third, "y"), add(other, "x"), set(first, 1, 0, "=B3"), format(first, 4, rect(1, 0, 2, 2)), set(first, 1, 1, "2"), set(other, 1, 1, "t"), cols(other, del(0)), rows(first, del(0)), remove(third), cols(first, move(0, 2)), cols(first, move(1, 0))},
	}
}

func TestTheHistorySaysNothing(t *testing.T) {
	want := check(t, book(same()[0]...))
	for i, os := range same() {
		if got := check(t, book(os...)); !bytes.Equal(got, want) {
			t.Errorf("P15.1: way %d: %s: % x; want % x", i, told(book(os...)), got, want)
		}
		// Of the same operations in one call, and of a copy.
		b := sheet.New()
		b.Apply(os...)
		if !bytes.Equal(Encode(b), want) || !bytes.Equal(Encode(b.Copy()), want) {
			t.Errorf("P15.1: way %d: in one call, or of a copy", i)
		}
		b.Apply(add(first, "no"), remove("c9n9"), set("c9n9", 0, 0, "1"), set(first, -1, 0, "1"))
		if !bytes.Equal(Encode(b), want) {
			t.Errorf("P15.1: way %d: behind operations that do not stand", i)
		}
	}
}

// Workbooks that differ in one thing have other bytes.
func TestOneThingElse(t *testing.T) {
	start := same()[0]
	seen := map[string]string{string(check(t, book(start...))): "as it was"}
	for what, os := range map[string][]api.Op{
		"a name":                           {rename(first, "sheet")},
		"the other sheet's name":           {rename(other, "x ")},
		"names changed about":              {rename(other, "Sheet"), rename(first, "x")},
		"a value":                          {set(first, 0, 1, "3")},
		"a value's kind":                   {set(first, 0, 1, "'2")},
		"a value's sign":                   {set(first, 0, 1, "-2")},
		"a value's least digit":            {set(first, 0, 1, "2.0001")},
		"a truth":                          {set(first, 0, 1, "TRUE")},
		"an error":                         {set(first, 0, 1, "#N/A")},
		"another error":                    {set(first, 0, 1, "#REF!")},
		"a formula for a value":            {set(first, 0, 1, "=2")},
		"an error as a formula":            {set(first, 0, 1, "=#REF!")},
		"an empty text":                    {set(first, 0, 1, "'")},
		"a cell less":                      {set(first, 0, 1, "")},
		"a cell more":                      {set(first, 0, 2, "2")},
		"a cell more, ahead":               {set(other, 0, 0, "2")},
		"a cell at another row":            {set(first, 0, 1, ""), set(first, 1, 1, "2")},
		"a cell at another column":         {set(first, 0, 1, ""), set(first, 0, 2, "2")},
		"a cell on another sheet":          {set(first, 0, 1, ""), set(other, 0, 1, "2")},
		"a place changed about":            {set(other, 1, 0, ""), set(other, 0, 1, "t")},
		"a formula's text":                 {set(first, 0, 0, "'=B2")},
		"a mark on a row":                  {set(first, 0, 0, "=B$2")},
		"a mark on a column":               {set(first, 0, 0, "=$B2")},
		"a reference's row":                {set(first, 0, 0, "=B3")},
		"a reference's column":             {set(first, 0, 0, "=C2")},
		"a reference's own sheet":          {set(first, 0, 0, "=c0n0!B2")},
		"a reference to another sheet":     {set(first, 0, 0, "=c1n1!B2")},
		"a reference that is lost":         {set(first, 0, 0, "=#REF!")},
		"a format":                         {format(first, 5, one(0, 0))},
		"a format less":                    {format(first, 0, one(0, 0))},
		"a format more":                    {format(first, 4, one(1, 0))},
		"a format on another sheet":        {format(other, 4, one(0, 0))},
		"a format there instead":           {format(first, 0, one(0, 0)), format(other, 4, one(0, 0))},
		"an id that was used":              {add("c2n6", "x"), remove("c2n6")},
		"two ids that were used":           {add("c2n6", "x"), remove("c2n6"), add("c1n0", "x"), remove("c1n0")},
		"the last id":                      {add("c15n999999", "x"), remove("c15n999999")},
		"a sheet more":                     {add("c2n6", "x")},
		"a sheet less":                     {remove(other)},
		"the first sheet less":             {remove(first)},
		"no sheets":                        {remove(other), remove(first)},
		"a sheet instead of another":       {remove(other), add("c2n6", "x"), set("c2n6", 1, 0, "t")},
		"all on another sheet":             {remove(other), add("c1n2", "x"), set("c1n2", 1, 0, "t")},
		"rows further down":                {rows(first, ins(0))},
		"columns further to the right":     {cols(first, ins(0))},
		"a line between":                   {cols(first, ins(1))},
		"cells at the last line":           {set(first, last, last, "x")},
		"a cell at the last row":           {set(first, last, 0, "x")},
		"a cell at the last column":        {set(first, 0, last, "x")},
		"a cell at the line ahead of it":   {set(first, 0, last-1, "x")},
		"a format at the last line":        {format(first, 4, one(last, last))},
		"a format at the line ahead of it": {format(first, 4, one(last-1, last))},
	} {
		b := book(start...)
		for _, o := range os {
			b.Apply(o)
		}
		p := string(check(t, b))
		if before, ok := seen[p]; ok {
			t.Errorf("P15.1: %s has the same bytes: %s", what, before)
		}
		seen[p] = what
	}
}

func TestEndsOfASheet(t *testing.T) {
	got, err := Decode(Encode(book(set(first, last, last, "x"), set(first, last-1, 0, "y"), rows(first, ins(3)), format(first, 7, one(last, last)), cols(first, move(0, last)))))
	if err != api.OK {
		t.Fatalf("P15.1: %d", err)
	}
	// The cell at the last row went beyond it, and the column ahead of all came ahead of the last one.
	if want := fmt.Sprintf(`c0n0="Sheet"{%d,%d:"y";%d,%d#7;}[c0n0]`, int64(last), int64(last-1), int64(last), int64(last)); told(got) != want {
		t.Errorf("P15.1: %s; want %s", told(got), want)
	}
}

func TestLostReferences(t *testing.T) {
	got, err := Decode(Encode(samples()["references lost"]))
	want := `c0n0="Sheet"{0,0:"=#REF!+#REF!";1,0:"=SUM(#REF!,#REF!)";2,0:"=#REF!";}[c0n0 c1n1]`
	if err != api.OK || told(got) != want {
		t.Errorf("P15.1: %s; want %s", told(got), want)
	}
}

func TestIdsThatWereUsed(t *testing.T) {
	b := sheet.New()
	for i := range 3000 {
		id := fmt.Sprintf("c%dn%d", i%16, i)
		b.Apply(add(id, "x"), remove(id))
	}
	b.Apply(add("c15n999999", "kept"), set("c15n999999", 0, 0, "=c3n3!A1"))
	check(t, b)
	b.Apply(remove(first))
	check(t, b)
	if got, _ := Decode(Encode(b)); len(got.Used()) != 3001 || got.Apply(add("c5n2997", "x"), add(first, "x"), add("c5n2998", "x")) != 1 {
		t.Error("P15.1: ids that were used may be used again")
	}
}

// A workbook of many cells; what takes longer the more there are would take hours.
func TestManyCells(t *testing.T) {
	b := sheet.New()
	b.Apply(add(other, "x"))
	for i := range int64(40_000) {
		b.Apply(set([]string{first, other}[i%2], i*i*i%999_983, i%300, fmt.Sprint("=A", i+1, "*2")), format(other, int(i%256), one(i%700, i/7)))
	}
	if p := check(t, b); len(p) < 500_000 {
		t.Errorf("the test's own workbook is small: %d bytes", len(p))
	}
}
