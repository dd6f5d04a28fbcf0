package xform

import (
	"fmt"
	"slices"
	"strings"
	"testing"

	"counterpane/a1"
	"counterpane/api"
	"counterpane/op"
	"counterpane/show"
)

const (
	first = "c0n0"
	other = "c1n1"
	third = "c2n5"
)

const lines = 1 << 41 // that a sheet has

// do is an operation by its text: "c0n0!B3 =A1", "c0n0 row +1" (a new line), "c0n0 col -1" (a line that goes), "c0n0 row 3>0" (one that moves),
// "c0n0 #5 0,0,2,1 2,1,3,2" (a format), "c0n0 add x", "c0n0 rename x", "c0n0 remove".
func do(s string) api.Op {
	head, rest, _ := strings.Cut(s, " ")
	if r, ok := a1.Parse(head); ok {
		c, err := show.Read(rest)
		if err != api.OK || r.Sheet == "" {
			panic("the test's own operation " + s + " is none")
		}
		return api.Op{Kind: api.OSet, Sheet: r.Sheet, Row: r.Row, Col: r.Col, Cell: c}
	}
	word, rest, _ := strings.Cut(rest, " ")
	o := api.Op{Sheet: head}
	switch word {
	case "row", "col":
		o.Kind, o.Line = api.ORow, line(rest)
		if word == "col" {
			o.Kind = api.OCol
		}
	case "add":
		o.Kind, o.Name = api.OAdd, rest
	case "rename":
		o.Kind, o.Name = api.ORename, rest
	case "remove":
		o.Kind = api.ORemove
	default:
		o.Kind = api.OFormat
		read(word, "#%d", &o.Format)
		for _, text := range strings.Fields(rest) {
			var r api.Rect
			read(text, "%d,%d,%d,%d", &r.R0, &r.C0, &r.R1, &r.C1)
			o.Rects = append(o.Rects, r)
		}
	}
	return o
}

func read(text, form string, into ...any) {
	if n, err := fmt.Sscanf(text, form, into...); err != nil || n != len(into) {
		panic("the test's own text " + text + " is none")
	}
}

func line(s string) api.Line {
	var l api.Line
	switch {
	case s[0] == '+':
		l.Kind = api.LIns
		read(s, "+%d", &l.At)
	case s[0] == '-':
		l.Kind = api.LDel
		read(s, "-%d", &l.At)
	default:
		l.Kind = api.LMove
		read(s, "%d>%d", &l.At, &l.To)
	}
	return l
}

// say is the text of what do makes; "-" of a zero operation.
func say(o api.Op) string {
	switch o.Kind {
	case api.OSet:
		return a1.Print(api.Ref{Sheet: o.Sheet, Row: o.Row, Col: o.Col}) + " " + show.Cell(o.Cell)
	case api.ORow:
		return o.Sheet + " row " + sayLine(o.Line)
	case api.OCol:
		return o.Sheet + " col " + sayLine(o.Line)
	case api.OFormat:
		out := fmt.Sprintf("%s #%d", o.Sheet, o.Format)
		for _, r := range o.Rects {
			out += fmt.Sprintf(" %d,%d,%d,%d", r.R0, r.C0, r.R1, r.C1)
		}
		return out
	case api.OAdd:
		return o.Sheet + " add " + o.Name
	case api.ORename:
		return o.Sheet + " rename " + o.Name
	case api.ORemove:
		return o.Sheet + " remove"
	}
	return "-"
}

func sayLine(l api.Line) string {
	return []string{"?", fmt.Sprint("+", l.At), fmt.Sprint("-", l.At), fmt.Sprint(l.At, ">", l.To), "?", "?"}[l.Kind]
}

func doAll(texts ...string) []api.Op {
	var out []api.Op
	for _, s := range texts {
		out = append(out, do(s))
	}
	return out
}

func sayAll(os []api.Op) []string {
	var out []string
	for _, o := range os {
		out = append(out, say(o))
	}
	return out
}

// check holds Op against what is wanted: "-": none, "=": a as it was.
func check(t *testing.T, a, b api.Op, prior bool, want string) {
	t.Helper()
	if want == "=" {
		want = say(a)
	}
	got, ok := Op(a, b, prior)
	if say(got) != want || ok != (want != "-") {
		t.Errorf("P18.1: %s behind %s, prior %v: %s, %v; want %s", say(a), say(b), prior, say(got), ok, want)
	}
	// All fields that the text does not tell are zero.
	if ok && !op.May(got) || !ok && !op.Eq(got, api.Op{}) {
		t.Errorf("P18.1: %s behind %s, prior %v: %+v", say(a), say(b), prior, got)
	}
}

// row is a behind b, a prior and a later; a later that is empty: the same.
type row struct{ a, b, prior, later string }

func (x row) check(t *testing.T) {
	t.Helper()
	check(t, do(x.a), do(x.b), true, x.prior)
	if x.later == "" {
		x.later = x.prior
	}
	check(t, do(x.a), do(x.b), false, x.later)
}

func checkAll(t *testing.T, rows []row) {
	t.Helper()
	for _, x := range rows {
		x.check(t)
	}
}

// everyKind is each kind behind each other one, on the same sheet and on another.
func everyKind() []row {
	return []row{
		{"c0n0!B3 =B3+c0n0!B3+c1n1!B3", "c0n0!B3 7", "-", "="},
		{"c0n0 row 2>0", "c0n0!B3 =B3", "=", ""},
		{"c0n0 col -1", "c0n0!B3 7", "=", ""},
		{"c0n0 #5 1,0,3,2", "c0n0!B3 7", "=", ""},
		{"c0n0 add x", "c0n0!B3 7", "=", ""},
		{"c0n0 rename x", "c0n0!B3 7", "=", ""},
		{"c0n0 remove", "c0n0!B3 7", "=", ""},
		{"c1n1!B3 =B3+c0n0!B3+c1n1!B3", "c0n0!B3 7", "=", ""},
		{"c1n1 row 2>0", "c0n0!B3 7", "=", ""},
		{"c1n1 col -1", "c0n0!B3 7", "=", ""},
		{"c1n1 #5 1,0,3,2", "c0n0!B3 7", "=", ""},
		{"c1n1 add x", "c0n0!B3 7", "=", ""},
		{"c1n1 rename x", "c0n0!B3 7", "=", ""},
		{"c1n1 remove", "c0n0!B3 7", "=", ""},

		{"c0n0!B3 =B3+c0n0!B3+c1n1!B3", "c0n0 row 2>0", "c0n0!B1 =B1+c0n0!B1+c1n1!B3", ""},
		{"c0n0 row 2>0", "c0n0 row 2>5", "-", "c0n0 row 4>0"},
		{"c0n0 col -1", "c0n0 row 2>0", "=", ""},
		{"c0n0 #5 1,0,3,2", "c0n0 row 2>0", "c0n0 #5 0,0,1,2 2,0,3,2", ""},
		{"c0n0 add x", "c0n0 row 2>0", "=", ""},
		{"c0n0 rename x", "c0n0 row 2>0", "=", ""},
		{"c0n0 remove", "c0n0 row 2>0", "=", ""},
		{"c1n1!B3 =B3+c0n0!B3+c1n1!B3", "c0n0 row 2>0", "c1n1!B3 =B3+c0n0!B1+c1n1!B3", ""},
		{"c1n1 row 2>0", "c0n0 row 2>5", "=", ""},
		{"c1n1 col -1", "c0n0 row 2>0", "=", ""},
		{"c1n1 #5 1,0,3,2", "c0n0 row 2>0", "=", ""},
		{"c1n1 add x", "c0n0 row 2>0", "=", ""},
		{"c1n1 rename x", "c0n0 row 2>0", "=", ""},
		{"c1n1 remove", "c0n0 row 2>0", "=", ""},

		{"c0n0!B3 =B3+c0n0!B3+c1n1!B3", "c0n0 col +1", "c0n0!C3 =C3+c0n0!C3+c1n1!B3", ""},
		{"c0n0 row 2>0", "c0n0 col +1", "=", ""},
		{"c0n0 col +1", "c0n0 col +1", "c0n0 col +1", "c0n0 col +2"},
		{"c0n0 #5 1,0,3,2", "c0n0 col +1", "c0n0 #5 1,0,3,1 1,2,3,3", ""},
		{"c0n0 add x", "c0n0 col +1", "=", ""},
		{"c0n0 rename x", "c0n0 col +1", "=", ""},
		{"c0n0 remove", "c0n0 col +1", "=", ""},
		{"c1n1!B3 =B3+c0n0!B3+c1n1!B3", "c0n0 col +1", "c1n1!B3 =B3+c0n0!C3+c1n1!B3", ""},
		{"c1n1 row 2>0", "c0n0 col +1", "=", ""},
		{"c1n1 col +1", "c0n0 col +1", "=", ""},
		{"c1n1 #5 1,0,3,2", "c0n0 col +1", "=", ""},
		{"c1n1 add x", "c0n0 col +1", "=", ""},
		{"c1n1 rename x", "c0n0 col +1", "=", ""},
		{"c1n1 remove", "c0n0 col +1", "=", ""},

		{"c0n0!B3 =B3+c0n0!B3+c1n1!B3", "c0n0 #6 0,0,3,2", "=", ""},
		{"c0n0 row 2>0", "c0n0 #6 1,0,2,2", "=", ""},
		{"c0n0 col -1", "c0n0 #6 1,0,2,2", "=", ""},
		{"c0n0 #5 1,0,3,2", "c0n0 #6 1,0,2,2", "c0n0 #5 2,0,3,2", "="},
		{"c0n0 add x", "c0n0 #6 1,0,2,2", "=", ""},
		{"c0n0 rename x", "c0n0 #6 1,0,2,2", "=", ""},
		{"c0n0 remove", "c0n0 #6 1,0,2,2", "=", ""},
		{"c1n1!B3 =B3+c0n0!B3+c1n1!B3", "c0n0 #6 0,0,3,2", "=", ""},
		{"c1n1 row 2>0", "c0n0 #6 1,0,2,2", "=", ""},
		{"c1n1 col -1", "c0n0 #6 1,0,2,2", "=", ""},
		{"c1n1 #5 1,0,3,2", "c0n0 #6 1,0,2,2", "=", ""},
		{"c1n1 add x", "c0n0 #6 1,0,2,2", "=", ""},
		{"c1n1 rename x", "c0n0 #6 1,0,2,2", "=", ""},
		{"c1n1 remove", "c0n0 #6 1,0,2,2", "=", ""},

		{"c0n0!B3 =B3+c0n0!B3+c1n1!B3", "c0n0 add y", "=", ""},
		{"c0n0 row 2>0", "c0n0 add y", "=", ""},
		{"c0n0 col -1", "c0n0 add y", "=", ""},
		{"c0n0 #5 1,0,3,2", "c0n0 add y", "=", ""},
		{"c0n0 add x", "c0n0 add y", "=", ""},
		{"c0n0 rename x", "c0n0 add y", "=", ""},
		{"c0n0 remove", "c0n0 add y", "=", ""},
		{"c1n1!B3 =B3+c0n0!B3+c1n1!B3", "c0n0 add y", "=", ""},
		{"c1n1 row 2>0", "c0n0 add y", "=", ""},
		{"c1n1 col -1", "c0n0 add y", "=", ""},
		{"c1n1 #5 1,0,3,2", "c0n0 add y", "=", ""},
		{"c1n1 add x", "c0n0 add y", "=", ""},
		{"c1n1 rename x", "c0n0 add y", "=", ""},
		{"c1n1 remove", "c0n0 add y", "=", ""},

		{"c0n0!B3 =B3+c0n0!B3+c1n1!B3", "c0n0 rename y", "=", ""},
		{"c0n0 row 2>0", "c0n0 rename y", "=", ""},
		{"c0n0 col -1", "c0n0 rename y", "=", ""},
		{"c0n0 #5 1,0,3,2", "c0n0 rename y", "=", ""},
		{"c0n0 add x", "c0n0 rename y", "=", ""},
		{"c0n0 rename x", "c0n0 rename y", "-", "="},
		{"c0n0 remove", "c0n0 rename y", "=", ""},
		{"c1n1!B3 =B3+c0n0!B3+c1n1!B3", "c0n0 rename y", "=", ""},
		{"c1n1 row 2>0", "c0n0 rename y", "=", ""},
		{"c1n1 col -1", "c0n0 rename y", "=", ""},
		{"c1n1 #5 1,0,3,2", "c0n0 rename y", "=", ""},
		{"c1n1 add x", "c0n0 rename y", "=", ""},
		{"c1n1 rename x", "c0n0 rename y", "=", ""},
		{"c1n1 remove", "c0n0 rename y", "=", ""},

		{"c0n0!B3 =B3+c0n0!B3+c1n1!B3", "c0n0 remove", "-", ""},
		{"c0n0 row 2>0", "c0n0 remove", "-", ""},
		{"c0n0 col -1", "c0n0 remove", "-", ""},
		{"c0n0 #5 1,0,3,2", "c0n0 remove", "-", ""},
		{"c0n0 add x", "c0n0 remove", "-", ""},
		{"c0n0 rename x", "c0n0 remove", "-", ""},
		{"c0n0 remove", "c0n0 remove", "-", ""},
		{"c1n1!B3 =B3+c0n0!B3+c1n1!B3", "c0n0 remove", "c1n1!B3 =B3+#REF!+c1n1!B3", ""},
		{"c1n1 row 2>0", "c0n0 remove", "=", ""},
		{"c1n1 col -1", "c0n0 remove", "=", ""},
		{"c1n1 #5 1,0,3,2", "c0n0 remove", "=", ""},
		{"c1n1 add x", "c0n0 remove", "=", ""},
		{"c1n1 rename x", "c0n0 remove", "=", ""},
		{"c1n1 remove", "c0n0 remove", "=", ""},
	}
}

func TestEveryKindBehindEveryKind(t *testing.T) {
	met := map[string]bool{}
	for _, x := range everyKind() {
		a, b := do(x.a), do(x.b)
		met[fmt.Sprint(a.Kind, b.Kind, a.Sheet == b.Sheet)] = true
		x.check(t)
	}
	if len(met) != 7*7*2 {
		t.Errorf("the test's own table has %d pairs of kinds on one sheet and on two", len(met))
	}
}

func TestSetsOfOneCell(t *testing.T) {
	checkAll(t, []row{
		{"c0n0!B3 1", "c0n0!B3 2", "-", "="},
		{"c0n0!B3 1", "c0n0!B3 1", "-", "="},
		{"c0n0!B3 =A1", "c0n0!B3 ", "-", "="},
		{"c0n0!B3 ", "c0n0!B3 =A1", "-", "="},
		{"c0n0!B3 1", "c0n0!B4 2", "=", ""},
		{"c0n0!B3 1", "c0n0!C3 2", "=", ""},
		{"c0n0!B3 1", "c0n0!C2 2", "=", ""},
		{"c0n0!B3 1", "c1n1!B3 2", "=", ""},
		{"c0n0!A1 x", "c0n0!A1 y", "-", "="},
		// A cell that is named by a formula, or has a format, is set all the same.
		{"c0n0!B3 =A1", "c0n0!A1 =B3", "=", ""},
		{"c0n0!B3 =c1n1!B3", "c1n1!B3 7", "=", ""},
		{"c0n0!A1 x", "c0n0 #0 0,0,1,1", "=", ""},
	})
}

func TestCellsWhoseLinesGoAndMove(t *testing.T) {
	checkAll(t, []row{
		{"c0n0!C4 x", "c0n0 row +3", "c0n0!C5 x", ""},
		{"c0n0!C4 x", "c0n0 row +4", "=", ""},
		{"c0n0!C4 x", "c0n0 row +2", "c0n0!C5 x", ""},
		{"c0n0!C4 x", "c0n0 row -3", "-", ""},
		{"c0n0!C4 x", "c0n0 row -2", "c0n0!C3 x", ""},
		{"c0n0!C4 x", "c0n0 row -4", "=", ""},
		{"c0n0!C4 x", "c0n0 row 3>1", "c0n0!C2 x", ""},
		{"c0n0!C4 x", "c0n0 row 3>7", "c0n0!C7 x", ""},
		{"c0n0!C4 x", "c0n0 row 1>4", "c0n0!C3 x", ""},
		{"c0n0!C4 x", "c0n0 row 1>3", "=", ""},
		{"c0n0!C4 x", "c0n0 row 7>3", "c0n0!C5 x", ""},
		{"c0n0!C4 x", "c0n0 col +2", "c0n0!D4 x", ""},
		{"c0n0!C4 x", "c0n0 col +3", "=", ""},
		{"c0n0!C4 x", "c0n0 col -2", "-", ""},
		{"c0n0!C4 x", "c0n0 col -3", "=", ""},
		{"c0n0!C4 x", "c0n0 col -0", "c0n0!B4 x", ""},
		{"c0n0!C4 x", "c0n0 col 2>0", "c0n0!A4 x", ""},
		{"c0n0!C4 x", "c0n0 col 0>3", "c0n0!B4 x", ""},
		{"c0n0!C4 x", "c0n0 col 3>2", "c0n0!D4 x", ""},
		// A blank cell is set, too.
		{"c0n0!C4 ", "c0n0 row +0", "c0n0!C5 ", ""},
		{"c0n0!C4 ", "c0n0 col -2", "-", ""},
	})
}

// set is an OSet at any place, also where a1 has no text of it.
func set(row, col int64, s string) api.Op {
	c, _ := show.Read(s)
	return api.Op{Kind: api.OSet, Sheet: first, Row: row, Col: col, Cell: c}
}

func TestTheLastLine(t *testing.T) {
	const last = lines - 1
	for _, x := range []struct {
		a      api.Op
		b      string
		placed [2]int64
	}{
		{set(last, 4, "x"), "c0n0 row +0", [2]int64{-1, -1}},
		{set(last, 4, "x"), fmt.Sprint("c0n0 row +", last), [2]int64{-1, -1}},
		{set(last, 4, "x"), "c0n0 row -0", [2]int64{last - 1, 4}},
		{set(last, 4, "x"), fmt.Sprint("c0n0 row -", last), [2]int64{-1, -1}},
		{set(last, 4, "x"), fmt.Sprint("c0n0 row ", last, ">0"), [2]int64{0, 4}},
		{set(last, 4, "x"), fmt.Sprint("c0n0 row 0>", last), [2]int64{last, 4}},
		{set(last, 4, "x"), "c0n0 col +0", [2]int64{last, 5}},
		{set(last-1, 4, "x"), "c0n0 row +0", [2]int64{last, 4}},
		{set(last-1, 4, "x"), fmt.Sprint("c0n0 row +", last), [2]int64{last - 1, 4}},
		{set(4, last, "x"), "c0n0 col +3", [2]int64{-1, -1}},
		{set(4, last, "x"), "c0n0 row +3", [2]int64{5, last}},
		{set(4, last-1, "x"), "c0n0 col +3", [2]int64{4, last}},
		{set(last, last, "x"), "c1n1 row +0", [2]int64{last, last}},
		{set(last, last, ""), "c0n0 col -7", [2]int64{last, last - 1}},
	} {
		want, there := x.a, x.placed[0] >= 0
		want.Row, want.Col = x.placed[0], x.placed[1]
		if !there {
			want = api.Op{}
		}
		for _, prior := range []bool{false, true} {
			if got, ok := Op(x.a, do(x.b), prior); !op.Eq(got, want) || ok != there {
				t.Errorf("P18.1: the cell %d, %d behind %s: %+v, %v; want %+v", x.a.Row, x.a.Col, x.b, got, ok, want)
			}
		}
	}
	// Rectangles and lines that would leave the last line may not be any more; the first is none as a whole.
	checkAll(t, []row{
		{fmt.Sprintf("c0n0 #1 %d,0,%d,1", last-1, lines), "c0n0 row +0", "-", ""},
		{fmt.Sprintf("c0n0 #1 0,0,1,1 %d,0,%d,1", last, lines), "c0n0 row +0", "-", ""},
		{fmt.Sprintf("c0n0 #1 %d,0,%d,1", last-1, last), "c0n0 row +0", fmt.Sprintf("c0n0 #1 %d,0,%d,1", last, lines), ""},
		{fmt.Sprintf("c0n0 #1 %d,0,%d,1", last-1, lines), "c0n0 row -0", fmt.Sprintf("c0n0 #1 %d,0,%d,1", last-2, last), ""},
		{fmt.Sprintf("c0n0 #1 0,%d,1,%d", last, lines), "c0n0 col +0", "-", ""},
		{fmt.Sprintf("c0n0 #1 0,%d,1,%d", last, lines), "c0n0 row +0", fmt.Sprintf("c0n0 #1 1,%d,2,%d", last, lines), ""},
		{fmt.Sprint("c0n0 row +", last), "c0n0 row +0", "-", ""},
		{fmt.Sprint("c0n0 row -", last), "c0n0 row +0", "-", ""},
		{fmt.Sprint("c0n0 row ", last, ">0"), "c0n0 row +5", "-", ""},
		{fmt.Sprint("c0n0 row 0>", last), "c0n0 row +5", "-", ""},
		{fmt.Sprint("c0n0 row 0>", last), "c0n0 col +5", "=", ""},
		{fmt.Sprint("c0n0 col -", last-1), "c0n0 col +5", fmt.Sprint("c0n0 col -", last), ""},
	})
}

func TestFormulasThatNameLines(t *testing.T) {
	checkAll(t, []row{
		// The formula's own sheet, told and not told; another sheet; a third one.
		{"c0n0!A9 =B3&c0n0!$B$3&c1n1!B3&c2n5!B3", "c0n0 row +2", "c0n0!A10 =B4&c0n0!$B$4&c1n1!B3&c2n5!B3", ""},
		{"c0n0!A9 =B3&c0n0!$B$3&c1n1!B3&c2n5!B3", "c1n1 row +2", "c0n0!A9 =B3&c0n0!$B$3&c1n1!B4&c2n5!B3", ""},
		{"c0n0!A9 =B3&c0n0!$B$3&c1n1!B3&c2n5!B3", "c2n5 row -2", "c0n0!A9 =B3&c0n0!$B$3&c1n1!B3&#REF!", ""},
		{"c1n1!A9 =B3&c0n0!$B$3&c1n1!B3&c2n5!B3", "c0n0 col +0", "c1n1!A9 =B3&c0n0!$C$3&c1n1!B3&c2n5!B3", ""},
		{"c1n1!A9 =B3&c0n0!$B$3&c1n1!B3&c2n5!B3", "c1n1 col 1>9", "c1n1!A9 =I3&c0n0!$B$3&c1n1!I3&c2n5!B3", ""},
		// Ranges: each end by itself; one that goes takes the range with it.
		{"c1n1!A1 =SUM(c0n0!A2:C4)", "c0n0 row +2", "c1n1!A1 =SUM(c0n0!A2:C5)", ""},
		{"c1n1!A1 =SUM(c0n0!A2:C4)", "c0n0 row -1", "c1n1!A1 =SUM(#REF!)", ""},
		{"c1n1!A1 =SUM(c0n0!A2:C4)", "c0n0 row -3", "c1n1!A1 =SUM(#REF!)", ""},
		{"c1n1!A1 =SUM(c0n0!A2:C4)", "c0n0 row -2", "c1n1!A1 =SUM(c0n0!A2:C3)", ""},
		{"c1n1!A1 =SUM(c0n0!A2:C4)", "c0n0 col -2", "c1n1!A1 =SUM(#REF!)", ""},
		{"c1n1!A1 =SUM(c0n0!A2:C4)", "c0n0 col 0>9", "c1n1!A1 =SUM(c0n0!I2:B4)", ""},
		{"c1n1!A1 =SUM(A2:C4)", "c0n0 row -1", "=", ""},
		// A formula's cell goes, or goes elsewhere, with what it names.
		{"c0n0!A3 =A3", "c0n0 row -2", "-", ""},
		{"c0n0!A3 =A2", "c0n0 row -1", "c0n0!A2 =#REF!", ""},
		{"c0n0!A3 =A2", "c0n0 row 1>3", "c0n0!A2 =A3", ""},
		{"c0n0!A3 =A3+A1", "c0n0 row 2>0", "c0n0!A1 =A1+A2", ""},
		// Lines that nothing names; what is no formula names none.
		{"c1n1!A1 =c0n0!A1", "c0n0 row +1", "=", ""},
		{"c1n1!A1 '=c0n0!A1", "c0n0 row +0", "=", ""},
		{"c1n1!A1 c0n0!A1", "c0n0 remove", "=", ""},
		{"c1n1!A1 =#REF!+1", "c0n0 row +0", "=", ""},
		// The last line.
		{fmt.Sprint("c1n1!A1 =c0n0!A", lines, "+c0n0!A", lines-1), "c0n0 row +7", fmt.Sprint("c1n1!A1 =#REF!+c0n0!A", lines), ""},
	})
}

func TestFormatsByHand(t *testing.T) {
	checkAll(t, []row{
		{"c0n0 #1 1,1,3,3", "c0n0 #2 1,1,3,3", "-", "="},
		{"c0n0 #1 1,1,3,3", "c0n0 #1 1,1,3,3", "-", "="},
		{"c0n0 #0 1,1,3,3", "c0n0 #2 0,0,4,4", "-", "="},
		{"c0n0 #1 1,1,3,3", "c0n0 #0 0,0,4,2", "c0n0 #1 1,2,3,3", "="},
		{"c0n0 #255 1,1,3,3", "c0n0 #2 2,2,4,4", "c0n0 #255 1,1,2,3 2,1,3,2", "="},
		{"c0n0 #1 1,1,3,3", "c0n0 #2 3,3,4,4", "=", ""},
		{"c0n0 #1 1,1,3,3", "c1n1 #2 1,1,3,3", "=", ""},
		{"c0n0 #1 0,0,3,3", "c0n0 #2 1,1,2,2", "c0n0 #1 0,0,1,3 1,0,2,1 1,2,2,3 2,0,3,3", "="},
		{"c0n0 #1 0,0,1,1 2,2,3,3", "c0n0 #2 0,0,1,1 2,2,3,3", "-", "="},
		// Lines.
		{"c0n0 #1 1,1,2,9", "c0n0 row -1", "-", ""},
		{"c0n0 #1 1,1,9,2", "c0n0 col -1", "-", ""},
		{"c0n0 #1 1,1,9,2", "c0n0 row -1", "c0n0 #1 1,1,8,2", ""},
		{"c0n0 #1 1,1,3,3", "c0n0 row +1", "c0n0 #1 2,1,4,3", ""},
		{"c0n0 #1 1,1,3,3", "c0n0 row +2", "c0n0 #1 1,1,2,3 3,1,4,3", ""},
		{"c0n0 #1 1,1,3,3", "c0n0 row +3", "=", ""},
		{"c0n0 #1 1,1,3,3", "c0n0 col +2", "c0n0 #1 1,1,3,2 1,3,3,4", ""},
		{"c0n0 #1 1,1,3,3", "c0n0 row 1>5", "c0n0 #1 1,1,2,3 4,1,5,3", ""},
		{"c0n0 #1 1,1,3,3", "c0n0 row 5>2", "c0n0 #1 1,1,2,3 3,1,4,3", ""},
		{"c0n0 #1 1,1,3,3", "c0n0 col 5>2", "c0n0 #1 1,1,3,2 1,3,3,4", ""},
		{"c0n0 #1 1,1,2,3 3,1,4,3", "c0n0 row -2", "c0n0 #1 1,1,3,3", ""},
		{"c0n0 #1 1,1,2,3 3,1,4,3", "c0n0 row 2>0", "c0n0 #1 2,1,4,3", ""},
		{"c0n0 #1 1,1,3,3", "c1n1 row -1", "=", ""},
		// What has a formula or a name touches no format.
		{"c0n0 #1 1,1,3,3", "c0n0!B2 =A1", "=", ""},
	})
}

// chess is every second cell of 16 rows and columns, from the first one or the second one on.
func chess(from int64) []api.Rect {
	var out []api.Rect
	for row := range int64(16) {
		for col := (row + from) % 2; col < 16; col += 2 {
			out = append(out, api.Rect{R0: row, C0: col, R1: row + 1, C1: col + 1})
		}
	}
	return out
}

func format(n int, rs ...api.Rect) api.Op {
	return api.Op{Kind: api.OFormat, Sheet: first, Rects: rs, Format: n}
}

// A format may come to as many rectangles as cells, and never to more cells.
func TestFormatsOfManyRectangles(t *testing.T) {
	whole := format(1, api.Rect{R1: 16, C1: 16})
	check(t, whole, format(2, chess(0)...), true, say(format(1, chess(1)...)))
	check(t, whole, format(2, chess(1)...), true, say(format(1, chess(0)...)))
	check(t, whole, format(2, chess(1)...), false, "=")
	check(t, format(1, chess(0)...), format(2, chess(1)...), true, "=")
	check(t, format(1, chess(0)...), format(2, chess(0)...), true, "-")
	check(t, format(1, chess(0)...), whole, true, "-")

	var single, apart, lines []api.Rect
	var news []api.Op
	for i := range int64(256) {
		single = append(single, api.Rect{R0: 2 * i, R1: 2*i + 1, C0: 3, C1: 4})
		apart = append(apart, api.Rect{R0: 2*i + 1, R1: 2*i + 2, C0: 3, C1: 4})
		if i > 0 {
			news = append(news, do(fmt.Sprint("c0n0 row +", 2*i-1)))
		}
	}
	lines = append(lines, api.Rect{R1: 256, C0: 3, C1: 4})
	check(t, format(1, single...), do("c0n0 row +0"), true, say(format(1, apart...)))
	check(t, format(1, single...), format(2, apart...), true, "=")
	check(t, format(1, single...), do("c0n0 col -3"), true, "-")
	// 256 cells in a column, behind a new line between each two.
	a, b := Batches([]api.Op{format(1, lines...)}, news, true)
	if len(a) != 1 || say(a[0]) != say(format(1, single...)) || !op.May(a[0]) || !slices.Equal(sayAll(b), sayAll(news)) {
		t.Errorf("P18.1: a format behind 255 new lines: %v", sayAll(a))
	}
	// And 255 of them behind the going of each but the first.
	var gone []api.Op
	for range 255 {
		gone = append(gone, do("c0n0 row -1"))
	}
	a, b = Batches([]api.Op{format(1, lines...)}, gone, false)
	if !slices.Equal(sayAll(a), []string{"c0n0 #1 0,3,1,4"}) || len(b) != 255 {
		t.Errorf("P18.1: a format behind 255 lines that go: %v", sayAll(a))
	}
}

func TestLinesOfOneDirection(t *testing.T) {
	checkAll(t, []row{
		{"c0n0 row +2", "c0n0 row +1", "c0n0 row +3", ""},
		{"c0n0 row +2", "c0n0 row +2", "c0n0 row +2", "c0n0 row +3"},
		{"c0n0 row +2", "c0n0 row +3", "c0n0 row +2", ""},
		{"c0n0 row +2", "c0n0 row -1", "c0n0 row +1", ""},
		{"c0n0 row +2", "c0n0 row -2", "c0n0 row +2", ""},
		{"c0n0 row +2", "c0n0 row 2>5", "c0n0 row +2", ""},
		{"c0n0 row +2", "c0n0 row 0>2", "c0n0 row +1", "c0n0 row +2"},
		{"c0n0 row +2", "c0n0 row 5>2", "c0n0 row +2", "c0n0 row +3"},
		{"c0n0 row -2", "c0n0 row -2", "-", ""},
		{"c0n0 row -2", "c0n0 row -1", "c0n0 row -1", ""},
		{"c0n0 row -2", "c0n0 row +2", "c0n0 row -3", ""},
		{"c0n0 row -2", "c0n0 row +3", "c0n0 row -2", ""},
		{"c0n0 row -2", "c0n0 row 2>0", "c0n0 row -0", ""},
		{"c0n0 row -2", "c0n0 row 2>5", "c0n0 row -4", ""},
		{"c0n0 row 2>5", "c0n0 row -2", "-", ""},
		{"c0n0 row 2>5", "c0n0 row -4", "c0n0 row 2>4", ""},
		{"c0n0 row 2>5", "c0n0 row -5", "c0n0 row 2>5", ""},
		{"c0n0 row 2>5", "c0n0 row +5", "c0n0 row 2>5", "c0n0 row 2>6"},
		{"c0n0 row 2>5", "c0n0 row +2", "c0n0 row 3>6", ""},
		{"c0n0 row 2>5", "c0n0 row 2>5", "-", ""},
		{"c0n0 row 2>5", "c0n0 row 2>0", "-", "c0n0 row 0>5"},
		{"c0n0 row 2>5", "c0n0 row 2>7", "-", "c0n0 row 6>4"},
		{"c0n0 row 2>5", "c0n0 row 7>5", "c0n0 row 2>5", "c0n0 row 2>6"},
		{"c0n0 row 2>5", "c0n0 row 4>2", "c0n0 row 3>5", ""},
		// What is left is no way to go.
		{"c0n0 row 2>4", "c0n0 row -3", "-", ""},
		{"c0n0 row 2>4", "c0n0 row 3>0", "-", ""},
		{"c0n0 row 4>3", "c0n0 row -3", "-", ""},
		{"c0n0 col -2", "c0n0 col -2", "-", ""},
		{"c0n0 col 2>5", "c0n0 col 2>0", "-", "c0n0 col 0>5"},
		{"c0n0 col +2", "c0n0 col +2", "c0n0 col +2", "c0n0 col +3"},
		// Rows and columns do not touch one another, nor do sheets.
		{"c0n0 row -2", "c0n0 col -2", "=", ""},
		{"c0n0 col 2>5", "c0n0 row 2>0", "=", ""},
		{"c0n0 row +2", "c0n0 col +2", "=", ""},
		{"c0n0 row -2", "c1n1 row -2", "=", ""},
		{"c0n0 col +2", "c1n1 col +2", "=", ""},
	})
}

func TestSheetsThatGo(t *testing.T) {
	checkAll(t, []row{
		{"c1n1!A1 =c0n0!A1+A1*SUM(c0n0!$A$1:B2,c2n5!A1)", "c0n0 remove", "c1n1!A1 =#REF!+A1*SUM(#REF!,c2n5!A1)", ""},
		{"c0n0!A1 =c0n0!A1", "c0n0 remove", "-", ""},
		{"c0n0!A1 =c0n0!A1&B1", "c1n1 remove", "=", ""},
		{"c0n0!A1 =c1n1!A1&c1n11!A1", "c1n1 remove", "c0n0!A1 =#REF!&c1n11!A1", ""},
		{"c0n0!A1 ", "c0n0 remove", "-", ""},
		{"c2n5 add x", "c0n0 remove", "=", ""},
		{"c0n0 remove", "c2n5 add x", "=", ""},
		{"c0n0 remove", "c0n0 rename x", "=", ""},
		{"c0n0 remove", "c0n0 row -0", "=", ""},
		{"c0n0 remove", "c1n1 remove", "=", ""},
	})
}

func TestRenames(t *testing.T) {
	checkAll(t, []row{
		{"c0n0 rename x", "c0n0 rename x", "-", "="},
		{"c0n0 rename x", "c1n1 rename x", "=", ""},
		{"c0n0 rename x", "c0n0 add x", "=", ""},
		{"c0n0 rename a name of 20 bytes", "c0n0 rename y", "-", "="},
		{"c0n0 add x", "c0n0 rename y", "=", ""},
	})
}

// lists are two lists, and what they are behind one another.
type lists struct {
	a, b          []string
	prior         bool
	behind, after []string // a behind b, b behind a
}

func TestBatchesByHand(t *testing.T) {
	list := func(s ...string) []string { return s }
	for _, x := range []lists{
		{a: list("c0n0!A1 1"), b: list("c0n0!A1 2"), prior: true, behind: nil, after: list("c0n0!A1 2")},
		{a: list("c0n0!A1 1"), b: list("c0n0!A1 2"), prior: false, behind: list("c0n0!A1 1"), after: nil},
		{a: list("c0n0 rename x"), b: list("c0n0 rename y"), prior: true, behind: nil, after: list("c0n0 rename y")},
		{a: list("c0n0 rename x"), b: list("c0n0 rename y"), prior: false, behind: list("c0n0 rename x"), after: nil},
		{a: list("c0n0 row -1"), b: list("c0n0 row -1"), prior: true, behind: nil, after: nil},
		{a: list("c0n0 remove"), b: list("c0n0 remove"), prior: true, behind: nil, after: nil},
		// Each of a behind each of b, as it is then: b's second line is at another place behind a's first.
		{a: list("c0n0 row +0", "c0n0!A3 x"), b: list("c0n0 row +1", "c0n0 row +2"), prior: true, behind: list("c0n0 row +0", "c0n0!A5 x"), after: list("c0n0 row +2", "c0n0 row +3")},
		{a: list("c0n0 row +0", "c0n0 row +0"), b: list("c0n0 row +0"), prior: true, behind: list("c0n0 row +0", "c0n0 row +0"), after: list("c0n0 row +2")},
		{a: list("c0n0 row +0", "c0n0 row +0"), b: list("c0n0 row +0"), prior: false, behind: list("c0n0 row +1", "c0n0 row +1"), after: list("c0n0 row +0")},
		{a: list("c0n0 row -2"), b: list("c0n0 row 2>0", "c0n0 row +0", "c0n0!A2 x", "c0n0!A1 y"), prior: true, behind: list("c0n0 row -1"), after: list("c0n0 row +0", "c0n0!A1 y")},
		// The second one is of a line that the first one made: it does not hang on b.
		{a: list("c0n0 row +5", "c0n0!A6 x", "c0n0 row -5"), b: list("c0n0 row -0", "c0n0!A5 y"), prior: false, behind: list("c0n0 row +4", "c0n0!A5 x", "c0n0 row -4"), after: list("c0n0 row -0", "c0n0!A5 y")},
		// One that becomes none in the middle of a: what comes behind it goes on, and b is behind it all the same.
		{a: list("c0n0 row +0", "c0n0!A3 1", "c0n0!A4 2"), b: list("c0n0!B2 y", "c0n0 row -1", "c0n0!A2 z"), prior: true, behind: list("c0n0 row +0"), after: list("c0n0!B3 y", "c0n0 row -2", "c0n0!A3 z")},
		{a: list("c0n0 row +0", "c0n0!A3 1", "c0n0!A4 2"), b: list("c0n0!B2 y", "c0n0 row -1", "c0n0!A2 z"), prior: false, behind: list("c0n0 row +0", "c0n0!A3 2"), after: list("c0n0!B3 y", "c0n0 row -2")},
		{a: list("c0n0!A1 1", "c0n0 row -1", "c0n0!A2 2"), b: list("c0n0 row -1", "c0n0!A2 3", "c0n0!A1 4"), prior: true, behind: nil, after: list("c0n0!A2 3", "c0n0!A1 4")},
		{a: list("c0n0!A1 1", "c0n0 row -1", "c0n0!A2 2"), b: list("c0n0 row -1", "c0n0!A2 3", "c0n0!A1 4"), prior: false, behind: list("c0n0!A1 1", "c0n0!A2 2"), after: nil},
		// A move that becomes none leaves the other one's later operations where they are.
		{a: list("c0n0 row 3>1", "c0n0!A2 x"), b: list("c0n0 row 3>0", "c0n0!A1 y"), prior: true, behind: nil, after: list("c0n0 row 1>0", "c0n0!A1 y")},
		{a: list("c0n0 row 3>1", "c0n0!A2 x"), b: list("c0n0 row 3>0", "c0n0!A1 y"), prior: false, behind: list("c0n0 row 0>2", "c0n0!A2 x"), after: nil},
		// A sheet goes with what was done on it, and formulas that name it lose it; one that names it when it is gone already keeps what it names.
		{a: list("c1n1!A1 =c0n0!A1", "c0n0!A1 =c1n1!A1", "c0n0 row +0", "c1n1!A2 =c0n0!A2"), b: list("c0n0!B1 7", "c0n0 remove", "c1n1!B2 =c0n0!A1"), prior: true,
			behind: list("c1n1!A1 =#REF!", "c1n1!A2 =#REF!"), after: list("c0n0!B2 7", "c0n0 remove", "c1n1!B2 =c0n0!A1")},
		{a: list("c0n0 remove", "c1n1!A1 1"), b: list("c0n0 remove", "c1n1!A1 2"), prior: true, behind: nil, after: list("c1n1!A1 2")},
		// A sheet that comes, and what is done there.
		{a: list("c3n0 add x", "c3n0!A1 =c0n0!B2", "c3n0 row +0"), b: list("c0n0 col -1", "c4n0 add y", "c4n0!A1 =c3n0!A1"), prior: false,
			behind: list("c3n0 add x", "c3n0!A1 =#REF!", "c3n0 row +0"), after: list("c0n0 col -1", "c4n0 add y", "c4n0!A1 =c3n0!A2")},
		{a: list("c3n0 add x", "c3n0 remove", "c0n0!A1 =c3n0!A1"), b: list("c1n1!A1 =c3n0!A1"), prior: false, behind: list("c3n0 add x", "c3n0 remove", "c0n0!A1 =c3n0!A1"), after: list("c1n1!A1 =#REF!")},
		// Formats lose the others' cells bit by bit.
		{a: list("c0n0 #1 0,0,3,3"), b: list("c0n0 #2 0,0,1,3", "c0n0 row -0", "c0n0 #3 0,0,1,1", "c0n0 #0 1,1,2,3"), prior: true, behind: list("c0n0 #1 0,1,1,3 1,0,2,1"),
			after: list("c0n0 #2 0,0,1,3", "c0n0 row -0", "c0n0 #3 0,0,1,1", "c0n0 #0 1,1,2,3")},
		{a: list("c0n0 #1 0,0,3,3"), b: list("c0n0 #2 0,0,1,3", "c0n0 row -0", "c0n0 #3 0,0,1,1", "c0n0 #0 1,1,2,4"), prior: false, behind: list("c0n0 #1 0,0,2,3"),
			after: list("c0n0 row -0", "c0n0 #0 1,3,2,4")},
		// Two sheets, two directions: nothing meets.
		{a: list("c0n0 row +0", "c0n0 col -0", "c1n1!A1 x"), b: list("c1n1 row +4", "c1n1 #3 0,0,1,1"), prior: true, behind: list("c0n0 row +0", "c0n0 col -0", "c1n1!A1 x"), after: list("c1n1 row +4", "c1n1 #3 0,0,1,1")},
	} {
		checkLists(t, x)
		// The same told from b's side.
		checkLists(t, lists{a: x.b, b: x.a, prior: !x.prior, behind: x.after, after: x.behind})
	}
}

func checkLists(t *testing.T, x lists) {
	t.Helper()
	a, b := Batches(doAll(x.a...), doAll(x.b...), x.prior)
	if !slices.Equal(sayAll(a), x.behind) || !slices.Equal(sayAll(b), x.after) {
		t.Errorf("P18.1: %q and %q, prior %v: %q and %q; want %q and %q", x.a, x.b, x.prior, sayAll(a), sayAll(b), x.behind, x.after)
	}
}

func TestEmptyLists(t *testing.T) {
	full := doAll("c0n0!A1 =B2", "c0n0 row +0", "c0n0 #3 0,0,1,1 2,2,3,3", "c3n1 add x", "c0n0 rename y", "c1n1 remove")
	for _, prior := range []bool{false, true} {
		for _, none := range [][]api.Op{nil, {}} {
			for _, empty := range [][]api.Op{nil, {}} {
				if a, b := Batches(none, empty, prior); len(a)+len(b) != 0 {
					t.Errorf("P18.1: nothing and nothing: %v, %v", a, b)
				}
			}
			if a, b := Batches(full, none, prior); !slices.Equal(sayAll(a), sayAll(full)) || len(b) != 0 {
				t.Errorf("P18.1: all and nothing: %q, %v", sayAll(a), b)
			}
			if a, b := Batches(none, full, prior); !slices.Equal(sayAll(b), sayAll(full)) || len(a) != 0 {
				t.Errorf("P18.1: nothing and all: %v, %q", a, sayAll(b))
			}
		}
	}
}
