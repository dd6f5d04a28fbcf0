package snapshot

import (
	"bytes"
	"fmt"
	"math"
	"slices"
	"strings"
	"testing"

	"counterpane/api"
	"counterpane/op"
	"counterpane/opcode"
	"counterpane/sheet"
)

// rebuilt is b made anew from a new workbook, so that what cannot be made is not told.
func rebuilt(b *sheet.Book) *sheet.Book {
	out := sheet.New()
	there := b.Sheets()
	for _, id := range slices.Backward(b.Used()) {
		if !slices.Contains(there, id) {
			out.Apply(add(id, "gone"))
			out.Apply(remove(id))
		}
	}
	for _, id := range slices.Backward(there) {
		out.Apply(add(id, "not yet"))
	}
	for _, id := range there {
		for _, at := range slices.Backward(b.Formats(id)) {
			out.Apply(format(id, b.Format(at), one(at.Row, at.Col)))
		}
		for _, at := range slices.Backward(b.Cells(id)) {
			out.Apply(api.Op{Kind: api.OSet, Sheet: id, Row: at.Row, Col: at.Col, Cell: b.Cell(at)})
		}
		out.Apply(rename(id, b.Name(id)))
	}
	return out
}

// may says whether b is such as a workbook may be.
func may(b *sheet.Book) bool {
	there, used := b.Sheets(), b.Used()
	if len(there) > 16 || !slices.Contains(used, first) {
		return false
	}
	for _, id := range there {
		if !slices.Contains(used, id) || !op.May(rename(id, b.Name(id))) {
			return false
		}
		for _, at := range b.Cells(id) {
			c := b.Cell(at)
			if !op.May(api.Op{Kind: api.OSet, Sheet: id, Row: at.Row, Col: at.Col, Cell: c}) || !c.Formula && c.Value.Kind == api.VBlank {
				return false
			}
		}
		for _, at := range b.Formats(id) {
			if f := b.Format(at); f < 1 || f > 255 || max(at.Row, at.Col) > last || min(at.Row, at.Col) < 0 {
				return false
			}
		}
	}
	return true
}

// checkBytes has any bytes read, and says whether they are a workbook's.
func checkBytes(t *testing.T, p []byte) bool {
	t.Helper()
	b, err := Decode(p)
	if err != api.OK {
		if b != nil || err != api.ErrBytes {
			t.Fatalf("P15.1: Decode of % x: %v, %d", p, b != nil, err)
		}
		return false
	}
	if b == nil || !bytes.Equal(Encode(b), p) {
		t.Fatalf("P15.1: Encode of what Decode gives of % x", p)
	}
	again := rebuilt(b)
	if !may(b) || !again.Eq(b) || !bytes.Equal(Encode(again), p) {
		t.Fatalf("P15.1: Decode of % x gives what is no workbook: %s", p, told(b))
	}
	return true
}

func TestCutBytes(t *testing.T) {
	for what, b := range samples() {
		p := Encode(b)
		for n := range p {
			checkNone(t, p[:n], fmt.Sprintf("%s, cut at %d", what, n))
			checkBytes(t, p[n+1:])
		}
		for _, more := range [][]byte{{0}, {1}, {255}, {0, 0, 0}, p, make([]byte, 1<<12), []byte(first)} {
			checkNone(t, slices.Concat(p, more), what+", with more behind it")
			checkNone(t, slices.Concat(more, p), what+", with more ahead of it")
		}
	}
}

// Bytes changed, left out and put in: what is read is that which was written.
func TestChangedBytes(t *testing.T) {
	others := 0
	for what, b := range samples() {
		p := Encode(b)
		for i := range p {
			long := len(p) > 200
			// Of long ones some places, for they are much the same all along.
			if long && i > 100 && i < len(p)-100 && i%29 > 0 {
				continue
			}
			for n := range 256 {
				if long && n > 5 && n < 250 && n != int(p[i]^1) {
					continue
				}
				q := slices.Clone(p)
				q[i] = byte(n)
				if n != int(p[i]) && checkBytes(t, q) {
					others++
					if got, _ := Decode(q); got.Eq(b) {
						t.Fatalf("P15.1: %s: byte %d as %d is the same workbook", what, i, n)
					}
				}
			}
			checkBytes(t, slices.Delete(slices.Clone(p), i, i+1))
			for _, n := range []byte{0, 1, 2, 4, 128, 255} {
				checkBytes(t, slices.Insert(slices.Clone(p), i, n))
			}
			for _, n := range []int{1, 2, 3, 7, 11} {
				if i+2*n <= len(p) {
					checkBytes(t, slices.Concat(p[:i], p[i+n:i+2*n], p[i:i+n], p[i+2*n:]))
					checkBytes(t, slices.Concat(p[:i+n], p[i:]))
				}
			}
		}
	}
	if others < 1000 {
		t.Errorf("the test's own changes make other workbooks %d times", others)
	}
}

// raw is bytes as a writer writes them, of anything: a text, a number, a cell, a blank one (nil), or bytes as they are.
func raw(items ...any) []byte {
	var out []byte
	for _, item := range items {
		var c api.Cell
		switch v := item.(type) {
		case []byte:
			out = append(out, v...)
			continue
		case string:
			c.Value = api.Value{Kind: api.VText, Text: v}
		case int:
			c.Value = api.Value{Kind: api.VNumber, Num: api.Fix(v)}
		case api.Cell:
			c = v
		}
		b, err := opcode.Cell(c)
		if err != api.OK {
			panic(fmt.Sprint("the test's own cell is none: ", item))
		}
		out = append(out, b...)
	}
	return out
}

// plain is what one of the workbooks of TestRows is written as: ids that are gone, two sheets, cells, formats.
func plain() []any {
	return []any{"c1n0", "c2n0", nil,
		"c0n0", "Sheet", 0, 0, cell("1"), 0, 1, cell("=A1"), 2, 0, cell("x"), nil, 1, 1, 5, 1, 2, 5, nil,
		"c3n0", "y", nil, nil, nil}
}

// Where the pieces of plain stand.
const (
	gone   = 0  // its second id behind it
	sheets = 3  // its name behind it
	cells  = 5  // the next ones 3 and 6 behind it
	ends   = 14 // of the cells
	styles = 15 // the next one 3 behind it
	second = 22 // the second sheet
)

// with is plain with n of its items, from at on, left out, and others in their place.
func with(at, n int, items ...any) []byte {
	return raw(slices.Replace(plain(), at, at+n, items...)...)
}

func TestRows(t *testing.T) {
	b := book(add("c1n0", "a"), add("c2n0", "b"), remove("c1n0"), remove("c2n0"), add("c3n0", "y"),
		set(first, 0, 0, "1"), set(first, 0, 1, "=A1"), set(first, 2, 0, "x"), format(first, 5, rect(1, 1, 2, 3)))
	if p := check(t, b); !bytes.Equal(p, with(0, 0)) {
		t.Fatalf("the bytes are others than the tests know: % x; want % x", p, with(0, 0))
	}
	for what, p := range map[string][]byte{
		"an id less":                    with(gone, 1),
		"a sheet less":                  with(second, 4),
		"a cell less":                   with(cells, 3),
		"a format less":                 with(styles+3, 3),
		"the first sheet gone":          raw("c0n0", nil, nil),
		"an id more":                    with(gone+2, 0, "c2n1"),
		"a sheet more":                  with(second, 0, "c15n0", "x", nil, nil),
		"a sheet more ahead":            with(second, 0, "c0n1", "x", nil, nil),
		"a cell at the last line":       with(ends, 0, last, last, cell("x")),
		"a format at the last line":     with(styles+6, 0, last, last, 255),
		"another name":                  with(sheets+1, 1, "~"),
		"a name of most bytes":          with(sheets+1, 1, strings.Repeat("x", 20)),
		"another value":                 with(cells+2, 1, cell("'1")),
		"an empty text":                 with(cells+2, 1, ""),
		"a reference to a sheet's self": with(cells+2, 1, cell("=c1n0!A1")),
	} {
		if !checkBytes(t, p) {
			t.Errorf("P15.1: %s: no workbook", what)
		}
	}
}

func TestRowsOfNoWorkbook(t *testing.T) {
	sixteenMore := []any{}
	for _, id := range sixteen()[1:] {
		sixteenMore = append(sixteenMore, id, "x", nil, nil)
	}
	if !checkBytes(t, raw(slices.Concat([]any{nil, first, "Sheet", nil, nil}, sixteenMore, []any{nil})...)) {
		t.Error("P15.1: sixteen sheets")
	}
	for what, p := range map[string][]byte{
		"seventeen sheets":               raw(slices.Concat([]any{nil, first, "Sheet", nil, nil}, sixteenMore, []any{"c9n999", "x", nil, nil, nil})...),
		"seventeen, one of them gone":    raw(slices.Concat([]any{"c9n999", nil, first, "Sheet", nil, nil}, sixteenMore, []any{"c9n999", "x", nil, nil, nil})...),
		"an id twice":                    with(gone, 0, "c1n0"),
		"the last id twice":              with(gone+1, 0, "c2n0"),
		"ids in another order":           with(gone, 2, "c2n0", "c1n0"),
		"an id that may not be":          with(gone, 1, "c1n00"),
		"an id of a client that is none": with(gone, 1, "c16n0"),
		"an id that is empty":            with(gone, 0, ""),
		"an id that is a number":         with(gone, 0, 7),
		"an id that is a formula":        with(gone, 0, cell("=A1")),
		"an id that is a truth":          with(gone, 0, cell("TRUE")),
		"an id that is an error":         with(gone, 0, cell("#N/A")),
		"an id that is a formula's text": with(gone, 1, cell(`="c1n0"`)),
		"an id gone and there":           with(gone, 0, "c0n0"),
		"the second gone and there":      with(gone+2, 0, "c3n0"),
		"the first never was":            with(sheets, second-sheets),
		"the first was another":          with(sheets, 1, "c0n1"),
		"no ids at all":                  raw(nil, nil),
		"ids that went alone":            raw("c1n0", nil, nil),
		"a sheet twice":                  with(second, 0, "c3n0", "y", nil, nil),
		"a sheet twice, named anew":      with(second, 0, "c3n0", "z", nil, nil),
		"the first twice":                with(second, 0, "c0n0", "Sheet", nil, nil),
		"the first twice, with a cell":   with(second, 0, "c0n0", "Sheet", 3, 3, cell("1"), nil, nil),
		"sheets in another order":        raw(nil, "c3n0", "y", nil, nil, "c0n0", "Sheet", nil, nil, nil),
		"a sheet's id that may not be":   with(second, 1, "c3n01"),
		"a sheet's id that is a number":  with(second, 1, 3),
		"a sheet's id that is empty":     with(second, 1, ""),
		"a name that is empty":           with(sheets+1, 1, ""),
		"a name that is empty, second":   with(second+1, 1, ""),
		"a name that is blank":           with(sheets+1, 1, nil),
		"a name that is blank, second":   with(second+1, 1, nil),
		"a name that is a number":        with(sheets+1, 1, 1),
		"a name that is a formula":       with(second+1, 1, cell(`="y"`)),
		"a name that is too long":        with(sheets+1, 1, strings.Repeat("x", 21)),
		"a name with a byte below 32":    with(sheets+1, 1, "a\n"),
		"a name with a byte above 126":   with(second+1, 1, "é"),
		"no name":                        with(second+1, 1),
		"a cell twice":                   with(cells, 0, 0, 0, cell("1")),
		"a cell twice, else":             with(cells, 0, 0, 0, cell("2")),
		"a cell twice, first as it is":   with(cells+3, 0, 0, 0, cell("2")),
		"cells in another order":         with(cells, 6, 0, 1, cell("=A1"), 0, 0, cell("1")),
		"rows in another order":          with(cells, 9, 2, 0, cell("x"), 0, 0, cell("1"), 0, 1, cell("=A1")),
		"a blank cell":                   with(cells+2, 1, nil),
		"a blank cell more":              with(cells+9, 0, 7, 7, nil),
		"a row below 0":                  with(cells, 1, -1),
		"a column below 0":               with(cells+1, 1, -1),
		"a row that no sheet has":        with(cells+6, 1, last+1),
		"a column that no sheet has":     with(cells+7, 1, last+1),
		"a greater row":                  with(cells+6, 1, last+2),
		"the greatest row":               with(cells+6, 1, math.MaxInt64),
		"the greatest column":            with(cells+7, 1, math.MaxInt64),
		"the least row":                  with(cells, 1, math.MinInt64),
		"the least column":               with(cells+1, 1, math.MinInt64),
		"a row that is a text":           with(cells, 1, "0"),
		"a row that is a truth":          with(cells, 1, cell("FALSE")),
		"a row that is a formula":        with(cells, 1, cell("=0")),
		"a column that is a text":        with(cells+1, 1, ""),
		"a column that is blank":         with(cells+1, 1, nil),
		"a place without a cell":         with(cells+2, 1),
		"no end of the cells":            with(ends, 1),
		"two ends of the cells":          with(ends, 0, nil),
		"a format twice":                 with(styles, 0, 1, 1, 5),
		"a format twice, else":           with(styles, 0, 1, 1, 6),
		"formats in another order":       with(styles, 6, 1, 2, 5, 1, 1, 5),
		"rows of formats otherwise":      with(styles, 0, 2, 0, 5),
		"a format 0":                     with(styles+2, 1, 0),
		"a format 0 more":                with(styles+6, 0, 7, 7, 0),
		"a format below 0":               with(styles+2, 1, -1),
		"a format above 255":             with(styles+2, 1, 256),
		"a format far above 255":         with(styles+2, 1, 1<<32+5),
		"the greatest format":            with(styles+2, 1, math.MaxInt64),
		"a format that is a text":        with(styles+2, 1, "5"),
		"a format that is blank":         with(styles+2, 1, nil),
		"a format that is a truth":       with(styles+2, 1, cell("TRUE")),
		"a format at a row below 0":      with(styles, 1, -1),
		"a format at a column below 0":   with(styles+1, 1, -1),
		"a format beyond the rows":       with(styles+3, 1, last+1),
		"a format beyond the columns":    with(styles+4, 1, last+1),
		"a format at the greatest row":   with(styles+3, 1, math.MaxInt64),
		"one at the greatest column":     with(styles+4, 1, math.MaxInt64),
		"one at the greatest of both":    with(styles+3, 2, math.MaxInt64, math.MaxInt64),
		"a format at the least row":      with(styles, 1, math.MinInt64),
		"a format at a row of a text":    with(styles, 1, "1"),
		"a format at a column of none":   with(styles+1, 1, nil),
		"a place without a format":       with(styles+2, 1),
		"no end of the formats":          with(styles+6, 1),
		"two ends of the formats":        with(styles+6, 0, nil),
		"no end":                         with(second+4, 1),
		"two ends":                       with(second+4, 0, nil),
		"an end of the ids less":         with(gone+2, 1),
		"an end of the ids more":         with(gone+2, 0, nil),
		"no cell":                        with(cells+2, 1, []byte{9}),
		"no cell, longer":                with(cells+2, 1, []byte{1, 128, 0}),
		"no number":                      with(cells, 1, []byte{1, 128}),
		"a text of no UTF-8":             with(cells+2, 1, []byte{2, 1, 255}),
		"a text that is too long":        with(cells+2, 1, []byte{2, 201, 1}, bytes.Repeat([]byte("x"), 201)),
		"a number as none writes it":     with(cells, 1, []byte{1, 128, 0}),
		"a blank as none writes it":      with(ends, 1, []byte{128, 0}),
	} {
		checkNone(t, p, what)
	}
}

// All bytes up to three, and such as go on for long.
func TestAnyBytes(t *testing.T) {
	for a := range 256 {
		checkNone(t, []byte{byte(a)}, "one byte")
		for b := range 256 {
			checkNone(t, []byte{byte(a), byte(b)}, "two bytes")
			for _, c := range []byte{0, 1, 2, 3, 4, 5, 127, 128, 255} {
				checkNone(t, []byte{byte(a), byte(b), c}, "three bytes")
			}
		}
	}
	for _, again := range [][]byte{{0}, {1}, {2}, {5}, {255}, {128}, {1, 0}, {2, 0}, {3, 1}, {5, 7}, raw("c1n0"), raw("c1n0", nil), raw("c0n0", "x"), raw("c1n1", "x", nil, nil), raw(1, 1, 1), raw(1, 1, 1, nil), raw(7), raw(nil, "c0n0"), raw(-1), raw(cell("=A1"))} {
		for _, front := range [][]byte{nil, raw(nil), raw("c0n0", nil), raw(nil, "c0n0", "Sheet"), raw(nil, "c0n0", "Sheet", nil)} {
			checkNone(t, slices.Concat(front, bytes.Repeat(again, 1<<16/len(again))), "without end")
		}
	}
}

// dice is a row of numbers that are the same in each run.
type dice uint64

func (d *dice) roll(n int) int {
	*d = *d*6364136223846793005 + 1442695040888963407
	return int(uint64(*d)>>33) % n
}

// of is one of many.
func of[T any](d *dice, list ...T) T { return list[d.roll(len(list))] }

func (d *dice) id() string {
	return of(d, first, first, other, other, third, "c3n1", "c3n2", "c3n10", "c4n0", "c5n0", "c6n0", "c7n0", "c8n0", "c10n0", "c11n0", "c12n0", "c13n0", "c14n0", "c15n0", "c15n999999")
}

func (d *dice) op() api.Op {
	id, row, col := d.id(), of(d, int64(d.roll(4)), last), of(d, int64(d.roll(3)), last)
	switch d.roll(8) {
	case 0, 1:
		return set(id, row, col, of(d, "", "1", "'1", "x", "TRUE", "#N/A", "=A1", "=SUM(A1:B3,c1n1!A2)", "=c3n1!B2*-1", "=c0n0!$A$2&\"x\""))
	case 2:
		return rows(id, of(d, ins(int64(d.roll(4))), del(int64(d.roll(4))), move(0, 2+int64(d.roll(3)))))
	case 3:
		return cols(id, of(d, ins(int64(d.roll(4))), del(int64(d.roll(4))), move(3, int64(d.roll(3)))))
	case 4:
		return format(id, of(d, 0, 1, 255), one(row, col))
	case 5, 6:
		return add(id, of(d, "a", "b"))
	}
	return of(d, rename(id, of(d, "a", "b")), rename(id, "c"), remove(id))
}

// Workbooks of many ways have the same bytes just if they say the same, and just if they are Eq.
func TestWorkbooksByDice(t *testing.T) {
	d := dice(15)
	bytesOf, before := map[string]string{}, map[string]*sheet.Book{}
	again := 0
	for range 600 {
		b := sheet.New()
		for range d.roll(60) {
			b.Apply(d.op())
			if d.roll(5) > 0 {
				continue
			}
			p, what := string(check(t, b)), told(b)
			if same := rebuilt(b); !same.Eq(b) || string(Encode(same)) != p {
				t.Fatalf("P15.1: made another way: %s", what)
			}
			if was, ok := bytesOf[what]; ok {
				again++
				if was != p || !before[p].Eq(b) {
					t.Fatalf("P15.1: %s has bytes of two kinds", what)
				}
			} else if before[p] != nil {
				t.Fatalf("P15.1: %s and %s have the same bytes", what, told(before[p]))
			}
			bytesOf[what], before[p] = p, b.Copy()
		}
	}
	if again < 50 || len(before) < 1000 {
		t.Errorf("the test's own workbooks: %d come again, %d are different", again, len(before))
	}
}

func TestBytesByDice(t *testing.T) {
	d := dice(51)
	pieces := [][]byte{raw(nil), raw(nil), raw(nil), raw(0), raw(1), raw(2), raw("c0n0"), raw("c1n1"), raw("x"), raw(cell("=A1")), raw("Sheet"), {0}, {255}}
	found := 0
	for range 200_000 {
		var p []byte
		for range d.roll(14) {
			p = append(p, pieces[d.roll(len(pieces))]...)
		}
		if checkBytes(t, p) {
			found++
		}
	}
	for _, b := range samples() {
		p := Encode(b)
		for range 500 {
			q := slices.Clone(p)
			for range 1 + d.roll(4) {
				q[d.roll(len(q))] = byte(d.roll(256))
			}
			checkBytes(t, q)
		}
	}
	if found == 0 {
		t.Error("the test's own bytes are never a workbook's")
	}
}

func TestMemory(t *testing.T) {
	for what, b := range samples() {
		p, kept := Encode(b), Encode(b)
		clear(p[:cap(p)])
		if !bytes.Equal(Encode(b), kept) {
			t.Errorf("P0.3: %s: what Encode answers is kept", what)
		}
		room := append(slices.Clone(kept), 7, 8, 9)
		got, _ := Decode(room[:len(kept)])
		again, _ := Decode(room[:len(kept)])
		if !bytes.Equal(room, append(slices.Clone(kept), 7, 8, 9)) {
			t.Errorf("P0.3: %s: Decode changes its bytes", what)
		}
		for i := range room {
			room[i] = 'z'
		}
		if told(got) != told(b) || !bytes.Equal(Encode(got), kept) {
			t.Errorf("P0.3: %s: Decode keeps its bytes", what)
		}
		got.Apply(set(first, 0, 0, "else"), rows(first, ins(0)), format(first, 9, one(0, 0)), add("c1n77", "x"), remove(other), rename(first, "else"))
		if told(again) != told(b) || !bytes.Equal(Encode(b), kept) {
			t.Errorf("P0.3: %s: two workbooks have something in common", what)
		}
	}
}

func TestSameAnswerAgain(t *testing.T) {
	bad := with(gone, 0, "c1n0")
	for what, b := range samples() {
		p := Encode(b)
		Encode(nil)
		checkNone(t, bad, "between two calls")
		if got, err := Decode(p); err != api.OK || !got.Eq(b) || !bytes.Equal(Encode(got), p) {
			t.Errorf("P0.5: %s", what)
		}
	}
}
