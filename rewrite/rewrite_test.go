package rewrite

import (
	"fmt"
	"regexp"
	"slices"
	"strings"
	"testing"
	"unsafe"

	"counterpane/a1"
	"counterpane/api"
	"counterpane/parse"
	"counterpane/show"
)

// tell writes a tree with all its fields, those of other kinds too.
func tell(e api.Expr) string {
	s := fmt.Sprint(e.Kind)
	if e.Num != 0 {
		s += fmt.Sprint(" num ", int64(e.Num))
	}
	if e.Text != "" {
		s += fmt.Sprintf(" %q", e.Text)
	}
	if e.Bool {
		s += " true"
	}
	if e.Err != 0 {
		s += fmt.Sprint(" err ", e.Err)
	}
	for _, r := range e.Refs {
		s += fmt.Sprintf(" %+v", r)
	}
	for _, kid := range e.Kids {
		s += " (" + tell(kid) + ")"
	}
	return s
}

// The trees that tests ask about.

func num(n api.Fix) api.Expr    { return api.Expr{Kind: api.XNum, Num: n * 10000} }
func text(s string) api.Expr    { return api.Expr{Kind: api.XText, Text: s} }
func truth(b bool) api.Expr     { return api.Expr{Kind: api.XBool, Bool: b} }
func fault(err int) api.Expr    { return api.Expr{Kind: api.XErr, Err: err} }
func neg(kid api.Expr) api.Expr { return api.Expr{Kind: api.XNeg, Kids: []api.Expr{kid}} }

func bin(a api.Expr, operator string, b api.Expr) api.Expr {
	return api.Expr{Kind: api.XBin, Text: operator, Kids: []api.Expr{a, b}}
}

func call(name string, kids ...api.Expr) api.Expr {
	return api.Expr{Kind: api.XCall, Text: name, Kids: slices.Clone(kids)}
}

func ref(r api.Ref) api.Expr {
	return api.Expr{Kind: api.XRef, Refs: []api.Ref{r}}
}

func area(a, b api.Ref) api.Expr {
	return api.Expr{Kind: api.XRange, Refs: []api.Ref{a, b}}
}

// nest is e within n calls of wrap.
func nest(n int, e api.Expr, wrap func(api.Expr) api.Expr) api.Expr {
	for range n {
		e = wrap(e)
	}
	return e
}

// formula is the tree of s.
func formula(t *testing.T, s string) api.Expr {
	t.Helper()
	e, err := parse.Parse(s)
	if err != api.OK {
		t.Fatalf("the test's own formula %q is none", s)
	}
	return e
}

func ins(at int64) api.Line       { return api.Line{Kind: api.LIns, At: at} }
func del(at int64) api.Line       { return api.Line{Kind: api.LDel, At: at} }
func moved(at, to int64) api.Line { return api.Line{Kind: api.LMove, At: at, To: to} }

const (
	here  = "c0n0"
	there = "c1n2"
	far   = "c15n999999"
)

func checkLines(t *testing.T, s, home, on string, rows bool, l api.Line, want string) {
	t.Helper()
	got := Lines(formula(t, s), home, on, rows, l)
	if tell(got) != tell(formula(t, want)) {
		t.Errorf("P9.1: Lines(%s, %q, %q, rows %v, %+v) is %s, not %s", s, home, on, rows, l, show.Formula(got), want)
	}
}

func checkSheet(t *testing.T, s, home, gone, want string) {
	t.Helper()
	got := Sheet(formula(t, s), home, gone)
	if tell(got) != tell(formula(t, want)) {
		t.Errorf("P9.1: Sheet(%s, %q, %q) is %s, not %s", s, home, gone, show.Formula(got), want)
	}
}

// Each row is on rows and, with rows and columns changed, on columns.
func TestLinesThatComeGoAndMove(t *testing.T) {
	for _, x := range []struct {
		l             api.Line
		rows, columns string
	}{
		{ins(0), "A2+B3+C4+D5+E6", "B1+C2+D3+E4+F5"},
		{ins(1), "A1+B3+C4+D5+E6", "A1+C2+D3+E4+F5"},
		{ins(4), "A1+B2+C3+D4+E6", "A1+B2+C3+D4+F5"},
		{ins(5), "A1+B2+C3+D4+E5", "A1+B2+C3+D4+E5"},
		{del(0), "#REF!+B1+C2+D3+E4", "#REF!+A2+B3+C4+D5"},
		{del(2), "A1+B2+#REF!+D3+E4", "A1+B2+#REF!+C4+D5"},
		{del(4), "A1+B2+C3+D4+#REF!", "A1+B2+C3+D4+#REF!"},
		{del(5), "A1+B2+C3+D4+E5", "A1+B2+C3+D4+E5"},
		{moved(0, 2), "A2+B1+C3+D4+E5", "B1+A2+C3+D4+E5"},
		{moved(0, 5), "A5+B1+C2+D3+E4", "E1+A2+B3+C4+D5"},
		{moved(3, 1), "A1+B3+C4+D2+E5", "A1+C2+D3+B4+E5"},
		{moved(4, 0), "A2+B3+C4+D5+E1", "B1+C2+D3+E4+A5"},
		{moved(1, 100), "A1+B100+C2+D3+E4", "A1+CV2+B3+C4+D5"},
		{moved(100, 1), "A1+B3+C4+D5+E6", "A1+C2+D3+E4+F5"},
		{moved(7, 9), "A1+B2+C3+D4+E5", "A1+B2+C3+D4+E5"},
	} {
		checkLines(t, "A1+B2+C3+D4+E5", here, here, true, x.l, x.rows)
		checkLines(t, "A1+B2+C3+D4+E5", here, here, false, x.l, x.columns)
	}
}

func TestMarksStay(t *testing.T) {
	const s = "F(B3,$B3,B$3,$B$3,$B3:B$3,c1n2!$B$3:$B3)"
	checkLines(t, s, there, there, true, ins(1), "F(B4,$B4,B$4,$B$4,$B4:B$4,c1n2!$B$4:$B4)")
	checkLines(t, s, there, there, false, ins(1), "F(C3,$C3,C$3,$C$3,$C3:C$3,c1n2!$C$3:$C3)")
	checkLines(t, s, there, there, true, del(0), "F(B2,$B2,B$2,$B$2,$B2:B$2,c1n2!$B$2:$B2)")
	checkLines(t, s, there, there, false, moved(1, 0), "F(A3,$A3,A$3,$A$3,$A3:A$3,c1n2!$A$3:$A3)")
	checkLines(t, s, there, there, true, moved(7, 9), s)
	checkLines(t, s, there, far, true, ins(1), s)
}

func TestSheetThatIsMeant(t *testing.T) {
	const s = "A1+c0n0!A1+c1n2!A1+A1:B2+c0n0!A1:B2+c1n2!A1:B2"
	for _, x := range []struct{ home, on, inserted, gone string }{
		{here, here, "A2+c0n0!A2+c1n2!A1+A2:B3+c0n0!A2:B3+c1n2!A1:B2", "#REF!+#REF!+c1n2!A1+#REF!+#REF!+c1n2!A1:B2"},
		{here, there, "A1+c0n0!A1+c1n2!A2+A1:B2+c0n0!A1:B2+c1n2!A2:B3", "A1+c0n0!A1+#REF!+A1:B2+c0n0!A1:B2+#REF!"},
		{there, here, "A1+c0n0!A2+c1n2!A1+A1:B2+c0n0!A2:B3+c1n2!A1:B2", "A1+#REF!+c1n2!A1+A1:B2+#REF!+c1n2!A1:B2"},
		{there, there, "A2+c0n0!A1+c1n2!A2+A2:B3+c0n0!A1:B2+c1n2!A2:B3", "#REF!+c0n0!A1+#REF!+#REF!+c0n0!A1:B2+#REF!"},
		{far, here, "A1+c0n0!A2+c1n2!A1+A1:B2+c0n0!A2:B3+c1n2!A1:B2", "A1+#REF!+c1n2!A1+A1:B2+#REF!+c1n2!A1:B2"},
		{far, far, "A2+c0n0!A1+c1n2!A1+A2:B3+c0n0!A1:B2+c1n2!A1:B2", "#REF!+c0n0!A1+c1n2!A1+#REF!+c0n0!A1:B2+c1n2!A1:B2"},
		{here, far, s, s},
		{here, "c0n", s, s},
		{here, "C0N0", s, s},
		{here, "c0n00", s, s},
		{"", here, "A1+c0n0!A2+c1n2!A1+A1:B2+c0n0!A2:B3+c1n2!A1:B2", "A1+#REF!+c1n2!A1+A1:B2+#REF!+c1n2!A1:B2"},
		{"no id", "no id", "A2+c0n0!A1+c1n2!A1+A2:B3+c0n0!A1:B2+c1n2!A1:B2", "#REF!+c0n0!A1+c1n2!A1+#REF!+c0n0!A1:B2+c1n2!A1:B2"},
		{"no id", here, "A1+c0n0!A2+c1n2!A1+A1:B2+c0n0!A2:B3+c1n2!A1:B2", "A1+#REF!+c1n2!A1+A1:B2+#REF!+c1n2!A1:B2"},
	} {
		checkLines(t, s, x.home, x.on, true, ins(0), x.inserted)
		checkSheet(t, s, x.home, x.on, x.gone)
	}
	checkLines(t, s, here, "", true, ins(0), s)
	// What names no sheet is on home, and that is the sheet on.
	checkLines(t, s, "", "", true, ins(0), "A2+c0n0!A1+c1n2!A1+A2:B3+c0n0!A1:B2+c1n2!A1:B2")
}

func TestEndsOfRanges(t *testing.T) {
	for _, x := range []struct {
		l             api.Line
		rows, columns string
	}{
		{ins(1), "F(B3:D5,D5:B3,D3:B5,C4:C4)", "F(C2:E4,E4:C2,E2:C4,D3:D3)"},
		{ins(2), "F(B2:D5,D5:B2,D2:B5,C4:C4)", "F(B2:E4,E4:B2,E2:B4,D3:D3)"},
		{ins(3), "F(B2:D5,D5:B2,D2:B5,C3:C3)", "F(B2:E4,E4:B2,E2:B4,C3:C3)"},
		{ins(4), "F(B2:D4,D4:B2,D2:B4,C3:C3)", "F(B2:D4,D4:B2,D2:B4,C3:C3)"},
		{del(0), "F(B1:D3,D3:B1,D1:B3,C2:C2)", "F(A2:C4,C4:A2,C2:A4,B3:B3)"},
		{del(1), "F(#REF!,#REF!,#REF!,C2:C2)", "F(#REF!,#REF!,#REF!,B3:B3)"},
		{del(2), "F(B2:D3,D3:B2,D2:B3,#REF!)", "F(B2:C4,C4:B2,C2:B4,#REF!)"},
		{del(3), "F(#REF!,#REF!,#REF!,C3:C3)", "F(#REF!,#REF!,#REF!,C3:C3)"},
		{moved(1, 7), "F(B7:D3,D3:B7,D7:B3,C2:C2)", "F(G2:C4,C4:G2,C2:G4,B3:B3)"},
		{moved(3, 0), "F(B3:D1,D1:B3,D3:B1,C4:C4)", "F(C2:A4,A4:C2,A2:C4,D3:D3)"},
		{moved(2, 9), "F(B2:D3,D3:B2,D2:B3,C9:C9)", "F(B2:C4,C4:B2,C2:B4,I3:I3)"},
	} {
		const s = "F(B2:D4,D4:B2,D2:B4,C3:C3)"
		checkLines(t, s, here, here, true, x.l, x.rows)
		checkLines(t, s, here, here, false, x.l, x.columns)
		sheet := strings.NewReplacer("B2:D4", "c1n2!B2:D4", "D4:B2", "c1n2!D4:B2", "D2:B4", "c1n2!D2:B4", "C3:C3", "c1n2!C3:C3").Replace(s)
		named := regexp.MustCompile(`[(,]([A-Z])`)
		checkLines(t, sheet, here, there, true, x.l, named.ReplaceAllStringFunc(x.rows, func(s string) string { return s[:1] + "c1n2!" + s[1:] }))
		checkLines(t, sheet, here, here, true, x.l, sheet)
	}
}

func TestBeyondTheLastLine(t *testing.T) {
	const (
		lastRow, lastCol = "2199023255552", "JMTMMTQOF"
		penRow, penCol   = "2199023255551", "JMTMMTQOE"
	)
	corner := lastCol + lastRow
	s := "F(" + corner + ",A1:" + corner + "," + corner + ":A1," + corner + ":" + corner + ",$" + lastCol + "$" + lastRow + ",c1n2!" + corner + ")"
	lost := "F(#REF!,#REF!,#REF!,#REF!,#REF!,c1n2!" + corner + ")"
	for _, at := range []int64{0, 1, 1 << 40, 1<<41 - 2, 1<<41 - 1} {
		want := lost
		checkLines(t, s, here, here, true, ins(at), want)
		checkLines(t, s, here, here, false, ins(at), want)
	}
	checkLines(t, s, here, here, true, del(1<<41-1), lost)
	checkLines(t, s, here, here, false, del(1<<41-1), lost)
	pen := lastCol + penRow
	checkLines(t, "F("+pen+",A1:"+pen+")", here, here, true, ins(1), "F("+corner+",A1:"+corner+")")
	checkLines(t, "F("+corner+",A2:"+corner+")", here, here, true, del(0), "F("+pen+",A1:"+pen+")")
	pen = penCol + lastRow
	checkLines(t, "F("+pen+",A1:"+pen+")", here, here, false, ins(1), "F("+corner+",A1:"+corner+")")
	checkLines(t, "F("+corner+",B1:"+corner+")", here, here, false, del(0), "F("+pen+",A1:"+pen+")")
	checkLines(t, corner+"+A1", here, here, true, moved(1<<41-1, 0), lastCol+"1+A2")
	checkLines(t, corner+"+A1", here, here, false, moved(1<<41-1, 0), "A"+lastRow+"+B1")
	checkLines(t, corner+"+A1+A2", here, here, true, moved(0, 1<<41-1), corner+"+A"+penRow+"+A1")
}

// kinds are trees of each Kind, with references at each place where one may stand.
func kinds(x api.Expr) []api.Expr {
	l := []api.Expr{num(1), text("A1"), truth(true), fault(api.ENone), fault(api.ERef), x, neg(x), neg(neg(x)), call("F"), call("F", x), call("TOTAL", text("A1"), x, num(1), x, neg(x))}
	for _, operator := range []string{"=", "<>", "<", "<=", ">", ">=", "&", "+", "-", "*", "/"} {
		l = append(l, bin(x, operator, num(1)), bin(num(1), operator, x), bin(x, operator, bin(x, operator, neg(x))))
	}
	many := call("F", slices.Repeat([]api.Expr{x}, 30)...)
	l = append(l, many, nest(49, x, neg), nest(48, x, func(e api.Expr) api.Expr { return call("F", x, e, x) }))
	for i := range 30 {
		one := call("F", slices.Repeat([]api.Expr{num(1)}, 30)...)
		one.Kids[i] = x
		l = append(l, one)
	}
	return l
}

// Only where x stands is anything changed, and nothing of what stands around it.
func TestEachKindOfTree(t *testing.T) {
	x, y := ref(api.Ref{Row: 4, Col: 2, RowAbs: true}), ref(api.Ref{Row: 5, Col: 2, RowAbs: true})
	r, s := area(api.Ref{Row: 4, Col: 2}, api.Ref{Row: 2, Col: 9}), area(api.Ref{Row: 5, Col: 2}, api.Ref{Row: 2, Col: 9})
	for _, c := range []struct {
		l        api.Line
		from, to api.Expr
	}{
		{ins(3), x, y}, {ins(3), r, s}, {del(4), x, fault(api.ERef)}, {del(4), r, fault(api.ERef)}, {moved(4, 6), x, y},
	} {
		from, to, lost := kinds(c.from), kinds(c.to), kinds(fault(api.ERef))
		for i, e := range from {
			if got := Lines(e, here, here, true, c.l); !parse.May(e) || tell(got) != tell(to[i]) {
				t.Errorf("P9.1: Lines of %.200s is %.200s", tell(e), tell(got))
			}
			if got := Sheet(e, here, here); tell(got) != tell(lost[i]) {
				t.Errorf("P9.1: Sheet of %.200s is %.200s", tell(e), tell(got))
			}
			if got := Lines(e, there, here, true, c.l); tell(got) != tell(e) {
				t.Errorf("P9.1: Lines, on another sheet, of %.200s is %.200s", tell(e), tell(got))
			}
			if got := Sheet(e, there, here); tell(got) != tell(e) {
				t.Errorf("P9.1: Sheet, of another one, of %.200s is %.200s", tell(e), tell(got))
			}
		}
	}
}

// goes is where a line goes, told by a row of lines with identities of their own.
func goes(l api.Line, i int64) int64 {
	row := make([]int64, 40)
	for k := range row {
		row[k] = int64(k)
	}
	return int64(slices.Index(behind(row, l, -1), i))
}

// behind is a row of lines behind l; a new one is fresh.
func behind[T any](row []T, l api.Line, fresh T) []T {
	switch l.Kind {
	case api.LIns:
		return slices.Insert(row, int(l.At), fresh)
	case api.LDel:
		return slices.Delete(row, int(l.At), int(l.At)+1)
	}
	line, to := row[l.At], l.To
	row = slices.Delete(row, int(l.At), int(l.At)+1)
	if to > l.At {
		to--
	}
	return slices.Insert(row, int(to), line)
}

// Texts that are no references, and references with their sheets and ends.
var pieces = regexp.MustCompile(`"(?:[^"]|"")*"|(?:(c[0-9]+n[0-9]+)!)?(\$?[A-Z]+\$?[0-9]+)(?::(\$?[A-Z]+\$?[0-9]+))?`)

// model is s, a formula, with what to makes of each reference's text; empty: it is lost.
func model(s, home, on string, to func(string) string) string {
	return pieces.ReplaceAllStringFunc(s, func(piece string) string {
		part := pieces.FindStringSubmatch(piece)
		sheet := part[1]
		if sheet == "" {
			sheet = home
		}
		if part[2] == "" || sheet != on {
			return piece
		}
		out := to(part[2])
		if part[3] != "" && out != "" {
			if end := to(part[3]); end != "" {
				out += ":" + end
			} else {
				out = ""
			}
		}
		if out == "" {
			return "#REF!"
		}
		if part[1] != "" {
			out = part[1] + "!" + out
		}
		return out
	})
}

func modelLines(s, home, on string, rows bool, l api.Line) string {
	return model(s, home, on, func(one string) string {
		r, ok := a1.Parse(one)
		if !ok {
			panic(one)
		}
		if rows {
			r.Row = goes(l, r.Row)
		} else {
			r.Col = goes(l, r.Col)
		}
		return a1.Print(r)
	})
}

func modelSheet(s, home, gone string) string {
	return model(s, home, gone, func(string) string { return "" })
}

// smallLines are all operations with small numbers.
func smallLines(most int64) []api.Line {
	var l []api.Line
	for at := range most {
		l = append(l, ins(at), del(at))
		for to := range most {
			if to != at && to != at+1 {
				l = append(l, moved(at, to))
			}
		}
	}
	return l
}

func checkModel(t *testing.T, e api.Expr, home, on string, rows bool, l api.Line) {
	t.Helper()
	s := show.Formula(e)
	if got, want := Lines(e, home, on, rows, l), modelLines(s, home, on, rows, l); show.Formula(got) != want || got.Kind == 0 {
		t.Fatalf("P9.1: Lines(%s, %q, %q, rows %v, %+v) is %s, not %s", s, home, on, rows, l, show.Formula(got), want)
	}
	if got, want := Sheet(e, home, on), modelSheet(s, home, on); show.Formula(got) != want || got.Kind == 0 {
		t.Fatalf("P9.1: Sheet(%s, %q, %q) is %s, not %s", s, home, on, show.Formula(got), want)
	}
}

func TestAllSmallReferences(t *testing.T) {
	for _, l := range smallLines(6) {
		for r := range int64(7) {
			for c := range int64(7) {
				a := api.Ref{Row: r, Col: 3, RowAbs: r%2 == 0, ColAbs: c%2 == 0}
				b := api.Ref{Row: c, Col: r, ColAbs: r%2 == 0}
				far := a
				far.Sheet = there
				e := call("F", ref(a), ref(far), area(a, b), area(b, a), area(far, b))
				for _, rows := range []bool{true, false} {
					checkModel(t, e, here, here, rows, l)
					checkModel(t, e, here, there, rows, l)
				}
			}
		}
	}
}

// A small generator of its own, so that each run asks the same.
type dice uint64

func (d *dice) throw(n int) int {
	*d = *d*6364136223846793005 + 1442695040888963407
	return int(uint64(*d) >> 33 % uint64(n))
}

func (d *dice) sheet() string { return []string{here, there, far}[d.throw(3)] }

func (d *dice) ref() api.Ref {
	r := api.Ref{Row: int64(d.throw(8)), Col: int64(d.throw(8)), RowAbs: d.throw(2) == 0, ColAbs: d.throw(2) == 0}
	if d.throw(2) == 0 {
		r.Sheet = d.sheet()
	}
	return r
}

func (d *dice) leaf() api.Expr {
	switch d.throw(8) {
	case 0, 1, 2:
		return ref(d.ref())
	case 3, 4:
		end := d.ref()
		end.Sheet = ""
		return area(d.ref(), end)
	case 5:
		return text([]string{"A1", `"A1"`, "c0n0!A1:B2", "", "é"}[d.throw(5)])
	case 6:
		return []api.Expr{truth(true), truth(false), fault(api.ERef), fault(api.ENone), fault(api.EDiv)}[d.throw(5)]
	}
	return num(api.Fix(d.throw(100)))
}

// tree is one of at most so many nodes, and at most most deep.
func (d *dice) tree(nodes, most int) api.Expr {
	if nodes < 3 || most == 1 || d.throw(8) == 0 {
		return d.leaf()
	}
	switch d.throw(5) {
	case 0:
		return neg(d.tree(nodes-1, most-1))
	case 1:
		n := min(d.throw(5), nodes-1)
		kids := make([]api.Expr, n)
		for i := range kids {
			kids[i] = d.tree((nodes-1)/n, most-1)
		}
		return call([]string{"F", "SUM", "ABCDEFGHIJKLMNOPQRST"}[d.throw(3)], kids...)
	}
	left := 1 + d.throw(nodes-2)
	operators := []string{"=", "<>", "<", "<=", ">", ">=", "&", "+", "-", "*", "/"}
	return bin(d.tree(left, most-1), operators[d.throw(len(operators))], d.tree(nodes-1-left, most-1))
}

func TestGreatTrees(t *testing.T) {
	d := dice(9)
	lines := smallLines(9)
	for range 3000 {
		e := d.tree(2+d.throw(198), 50)
		if !parse.May(e) {
			t.Fatal("the test's own tree may not be")
		}
		home, on, rows, l := d.sheet(), d.sheet(), d.throw(2) == 0, lines[d.throw(len(lines))]
		checkModel(t, e, home, on, rows, l)
		if got := Lines(e, home, on, rows, l); !parse.May(got) || parse.Count(got) != parse.Count(e) {
			t.Fatalf("P9.1: Lines of %.200s may not be", tell(e))
		}
	}
}

// modelRefs are the references of s, as they stand there.
func modelRefs(s string) []api.Ref {
	var l []api.Ref
	for _, part := range pieces.FindAllStringSubmatch(s, -1) {
		if r, ok := a1.Parse(part[2]); ok {
			r.Sheet = part[1]
			l = append(l, r)
		}
		if end, ok := a1.Parse(part[3]); ok {
			l = append(l, end)
		}
	}
	return l
}

func TestRefs(t *testing.T) {
	for _, x := range []struct {
		s    string
		want []api.Ref
	}{
		{"1", nil}, {`"A1"`, nil}, {"F()", nil}, {"#REF!", nil}, {"TRUE&FALSE", nil},
		{"A1", []api.Ref{{}}},
		{"$C2", []api.Ref{{Row: 1, Col: 2, ColAbs: true}}},
		{"c1n2!C$2", []api.Ref{{Sheet: there, Row: 1, Col: 2, RowAbs: true}}},
		{"A1:C2", []api.Ref{{}, {Row: 1, Col: 2}}},
		{"C2:A1", []api.Ref{{Row: 1, Col: 2}, {}}},
		{"A1:A1", []api.Ref{{}, {}}},
		{"c1n2!A1:$C$2", []api.Ref{{Sheet: there}, {Row: 1, Col: 2, RowAbs: true, ColAbs: true}}},
		{"A1+A1", []api.Ref{{}, {}}},
		{"A3-F(B1:A2,-(c1n2!C9*2),\"A5\",A4)<A7", []api.Ref{{Row: 2}, {Col: 1}, {Row: 1}, {Sheet: there, Row: 8, Col: 2}, {Row: 3}, {Row: 6}}},
		{"A1+(A2+(A3+A4))", []api.Ref{{}, {Row: 1}, {Row: 2}, {Row: 3}}},
		{"A1+A2+A3+A4", []api.Ref{{}, {Row: 1}, {Row: 2}, {Row: 3}}},
		{"JMTMMTQOF2199023255552", []api.Ref{{Row: 1<<41 - 1, Col: 1<<41 - 1}}},
	} {
		if got := Refs(formula(t, x.s)); !slices.Equal(got, x.want) {
			t.Errorf("P9.1: Refs(%s) is %+v, not %+v", x.s, got, x.want)
		}
	}
	d := dice(11)
	for range 3000 {
		e := d.tree(2+d.throw(198), 50)
		if got, want := Refs(e), modelRefs(show.Formula(e)); !slices.Equal(got, want) {
			t.Fatalf("P9.1: Refs(%s) is %+v, not %+v", show.Formula(e), got, want)
		}
	}
}

func TestRefsOfEachKindOfTree(t *testing.T) {
	one := api.Ref{Sheet: there, Row: 4, Col: 2, RowAbs: true}
	end := api.Ref{Row: 7, Col: 1, ColAbs: true}
	alone, ends := kinds(ref(one)), kinds(area(one, end))
	for i, marked := range kinds(text("mark")) {
		n := strings.Count(show.Formula(marked), `"mark"`)
		if got := Refs(alone[i]); !slices.Equal(got, slices.Repeat([]api.Ref{one}, n)) {
			t.Errorf("P9.1: Refs of %.200s is %+v", tell(alone[i]), got)
		}
		if got := Refs(ends[i]); !slices.Equal(got, slices.Repeat([]api.Ref{one, end}, n)) {
			t.Errorf("P9.1: Refs of %.200s is %+v", tell(ends[i]), got)
		}
	}
}

// world is sheets with rows and columns that have identities of their own.
type world struct {
	rows, cols map[string][]int
	fresh      int
}

func (w *world) change(on string, rows bool, l api.Line) {
	w.fresh++
	lines := w.cols
	if rows {
		lines = w.rows
	}
	lines[on] = behind(lines[on], l, w.fresh)
}

// cell is the identities of what r, which stands on a sheet, points at.
func (w *world) cell(r api.Ref, sheet string) [2]int {
	return [2]int{w.rows[sheet][r.Row], w.cols[sheet][r.Col]}
}

// pointer is a reference or a range of a formula, and what its author saw.
type pointer struct {
	sheet string
	cells [][2]int
}

func (w *world) point(e api.Expr, home string) pointer {
	p := pointer{sheet: home}
	if e.Refs[0].Sheet != "" {
		p.sheet = e.Refs[0].Sheet
	}
	for _, r := range e.Refs {
		p.cells = append(p.cells, w.cell(r, p.sheet))
	}
	return p
}

// stands says whether all lines of p are there.
func (w *world) stands(p pointer) bool {
	for _, c := range p.cells {
		if !slices.Contains(w.rows[p.sheet], c[0]) || !slices.Contains(w.cols[p.sheet], c[1]) {
			return false
		}
	}
	return true
}

func (w *world) check(t *testing.T, e api.Expr, home string, seen []pointer) {
	t.Helper()
	for i, p := range seen {
		kid := e.Kids[i]
		if !w.stands(p) {
			if tell(kid) != tell(fault(api.ERef)) {
				t.Fatalf("C2: a line of %+v is gone, but it is %s", p, show.Formula(kid))
			}
			continue
		}
		if len(kid.Refs) != len(p.cells) || fmt.Sprint(w.point(kid, home)) != fmt.Sprint(p) {
			t.Fatalf("C2: %+v has become %s", p, show.Formula(kid))
		}
	}
}

// Behind a long row of operations each reference points at the cell that its author saw, or is #REF!.
func TestIdentities(t *testing.T) {
	d := dice(26)
	for range 60 {
		w := &world{map[string][]int{}, map[string][]int{}, 0}
		for _, sheet := range []string{here, there, far} {
			for range 60 {
				w.change(sheet, true, ins(0))
				w.change(sheet, false, ins(0))
			}
		}
		home := d.sheet()
		e := call("F")
		var seen []pointer
		for range 30 {
			kid := ref(d.ref())
			if d.throw(2) == 0 {
				kid = area(kid.Refs[0], api.Ref{Row: int64(d.throw(12)), Col: int64(d.throw(12))})
			}
			e.Kids = append(e.Kids, kid)
			seen = append(seen, w.point(kid, home))
		}
		lines := smallLines(14)
		for range 30 {
			on, rows, l := d.sheet(), d.throw(2) == 0, lines[d.throw(len(lines))]
			if l.Kind == api.LDel && d.throw(2) == 0 {
				l = ins(l.At)
			}
			w.change(on, rows, l)
			e = Lines(e, home, on, rows, l)
			w.check(t, e, home, seen)
		}
		gone := d.sheet()
		w.rows[gone], w.cols[gone] = nil, nil
		e = Sheet(e, home, gone)
		w.check(t, e, home, seen)
	}
}

// wrongLines are operations that may not be.
func wrongLines() []api.Line {
	return []api.Line{
		{}, {Kind: 4}, {Kind: -1}, {Kind: 1 << 40}, {At: 1}, {Kind: 0, At: 0, To: 3},
		{Kind: api.LIns, At: -1}, {Kind: api.LIns, At: 1 << 41}, {Kind: api.LIns, To: 1}, {Kind: api.LIns, At: -1 << 63}, {Kind: api.LIns, To: -1},
		{Kind: api.LDel, At: -1}, {Kind: api.LDel, At: 1 << 41}, {Kind: api.LDel, To: 2}, {Kind: api.LDel, At: 1<<63 - 1},
		{Kind: api.LMove}, {Kind: api.LMove, To: 1}, {Kind: api.LMove, At: 3, To: 3}, {Kind: api.LMove, At: 3, To: 4}, {Kind: api.LMove, At: -1, To: 3}, {Kind: api.LMove, At: 3, To: -1}, {Kind: api.LMove, At: 1 << 41, To: 3}, {Kind: api.LMove, At: 3, To: 1 << 41},
	}
}

func TestLinesThatMayNotBe(t *testing.T) {
	e := formula(t, "-A1+$B$3+c1n2!A1+SUM(A2:B5,c1n2!A1:A2)&\"x\"")
	for _, l := range wrongLines() {
		for _, rows := range []bool{true, false} {
			for _, on := range []string{here, there, far, ""} {
				if got := Lines(e, here, on, rows, l); tell(got) != tell(e) {
					t.Errorf("P9.1: Lines with %+v is %s", l, show.Formula(got))
				}
			}
		}
	}
}

func TestSheetThatIsEmpty(t *testing.T) {
	for _, home := range []string{"", here, there, "x"} {
		for _, s := range []string{"A1", "A1:B2", "c1n2!A1:B2", "F(A1,c1n2!A1)-c0n0!A1", "1"} {
			checkSheet(t, s, home, "", s)
		}
	}
}

func wrongTrees() map[string]api.Expr {
	return map[string]api.Expr{
		"a zero tree":               {},
		"a zero tree with Refs":     {Refs: []api.Ref{{}}},
		"a kind below":              {Kind: -1, Num: 1},
		"a kind beyond":             {Kind: 10},
		"a number below 0":          {Kind: api.XNum, Num: -1},
		"a number with a Ref":       {Kind: api.XNum, Refs: []api.Ref{{Sheet: here}}},
		"a text of 201 bytes":       text(strings.Repeat("x", 201)),
		"a text that is no UTF-8":   text("a\xff"),
		"a truth with a number":     {Kind: api.XBool, Bool: true, Num: 1},
		"the error 0":               fault(0),
		"the error 8":               fault(8),
		"no Ref":                    {Kind: api.XRef},
		"two Refs":                  {Kind: api.XRef, Refs: []api.Ref{{}, {Row: 1}}},
		"a Ref with a text":         {Kind: api.XRef, Refs: []api.Ref{{}}, Text: "A1"},
		"a Ref with a kid":          {Kind: api.XRef, Refs: []api.Ref{{Col: 5}}, Kids: []api.Expr{ref(api.Ref{Row: 6})}},
		"a lost row":                ref(api.Ref{Row: -1}),
		"a lost column":             ref(api.Ref{Col: -1}),
		"a row beyond":              ref(api.Ref{Row: api.MaxLine}),
		"a far row":                 ref(api.Ref{Row: 1<<63 - 1}),
		"a column beyond":           ref(api.Ref{Col: api.MaxLine}),
		"a sheet that is none":      ref(api.Ref{Sheet: "c16n0"}),
		"a range of none":           {Kind: api.XRange},
		"a range of one":            {Kind: api.XRange, Refs: []api.Ref{{}}},
		"a range of three":          {Kind: api.XRange, Refs: []api.Ref{{}, {Row: 1}, {Row: 2}}},
		"a range with a lost end":   area(api.Ref{}, api.Ref{Row: -1}),
		"a range of two sheets":     area(api.Ref{Sheet: here}, api.Ref{Sheet: there}),
		"a range of one sheet":      area(api.Ref{Sheet: here}, api.Ref{Sheet: here}),
		"a range's second sheet":    area(api.Ref{}, api.Ref{Sheet: here}),
		"a - with nothing":          {Kind: api.XNeg},
		"a - with two":              {Kind: api.XNeg, Kids: []api.Expr{num(1), ref(api.Ref{})}},
		"an operator with one side": {Kind: api.XBin, Text: "+", Kids: []api.Expr{ref(api.Ref{})}},
		"no operator":               bin(num(1), "", ref(api.Ref{})),
		"another operator":          bin(ref(api.Ref{}), "^", num(2)),
		"a name of small letters":   call("sum", ref(api.Ref{})),
		"a truth's name":            call("TRUE"),
		"a name of 21 letters":      call(strings.Repeat("A", 21)),
		"a call with 31":            call("F", slices.Repeat([]api.Expr{ref(api.Ref{})}, 31)...),
		"a call with a zero tree":   call("F", ref(api.Ref{}), api.Expr{}),
		"51 deep":                   nest(50, ref(api.Ref{}), neg),
		"201 nodes":                 bin(call("F", slices.Repeat([]api.Expr{nest(6, ref(api.Ref{}), neg)}, 28)...), "+", nest(2, ref(api.Ref{}), neg)),
		"nodes that are shared":     doubled(10, ref(api.Ref{Row: 3})),
		"400 deep":                  nest(400, ref(api.Ref{}), func(e api.Expr) api.Expr { return bin(e, "+", ref(api.Ref{})) }),
	}
}

// doubled stands on one tree at both sides of each node, so that it soon has more nodes than can be gone through.
func doubled(n int, leaf api.Expr) api.Expr {
	return nest(n, leaf, func(e api.Expr) api.Expr { return bin(e, "+", e) })
}

// around are trees with e in them, which may not be if e may not, and with references beside it.
func around(e api.Expr) []api.Expr {
	x := ref(api.Ref{Row: 1, RowAbs: true})
	return []api.Expr{e, neg(e), bin(x, "+", e), bin(e, "*", x), call("F", x, e, area(api.Ref{Sheet: there}, api.Ref{Row: 3}))}
}

// all are the references of e, each node's ahead of its kids'.
func all(e api.Expr) []api.Ref {
	l := slices.Clone(e.Refs)
	for _, kid := range e.Kids {
		l = append(l, all(kid)...)
	}
	return l
}

func TestTreesThatMayNotBe(t *testing.T) {
	for what, wrong := range wrongTrees() {
		for i, e := range around(wrong) {
			if parse.May(e) {
				t.Fatalf("the test's own tree (%s, %d) may be", what, i)
			}
			want := tell(e)
			for _, rows := range []bool{true, false} {
				for _, l := range []api.Line{ins(0), del(0), moved(0, 5), {}} {
					if got := Lines(e, here, here, rows, l); tell(got) != want {
						t.Errorf("P9.1: Lines of %s, %d, is %.200s, not %.200s", what, i, tell(got), want)
					}
				}
			}
			for _, gone := range []string{here, there, ""} {
				if got := Sheet(e, here, gone); tell(got) != want {
					t.Errorf("P9.1: Sheet of %s, %d, is %.200s, not %.200s", what, i, tell(got), want)
				}
			}
			if got := Refs(e); !slices.Equal(got, all(e)) {
				t.Errorf("P9.1: Refs of %s, %d, is %.200v", what, i, got)
			}
		}
	}
}

// looped is a tree that is its own kid, so many nodes further down, with a reference at each.
func looped(n int) api.Expr {
	lists := make([][]api.Expr, n)
	for i := range lists {
		lists[i] = []api.Expr{ref(api.Ref{Row: int64(i)}), {Kind: api.XCall, Text: "F"}}
	}
	for i := range lists {
		lists[i][1].Kids = lists[(i+1)%n]
	}
	return lists[0][1]
}

func TestTreesWithoutEnd(t *testing.T) {
	for i, e := range []api.Expr{doubled(48, ref(api.Ref{})), doubled(1000, ref(api.Ref{})), doubled(1000, num(1)), looped(1), looped(2), looped(7), looped(1000), neg(looped(1)), bin(looped(3), "+", doubled(60, num(2)))} {
		if got := Lines(e, here, here, true, ins(0)); !parse.Eq(got, e) {
			t.Errorf("P9.1, P0.1: Lines of tree %d without end is another", i)
		}
		got := Sheet(e, here, here)
		if !parse.Eq(got, e) {
			t.Errorf("P9.1, P0.1: Sheet of tree %d without end is another", i)
		}
		for _, r := range Refs(e) {
			if r.Sheet != "" || r.Row < 0 || r.Row > 1000 {
				t.Errorf("P9.1, P0.1: Refs of tree %d without end has %+v", i, r)
			}
		}
		got.Kids[0] = text("mark")
		if e.Kids[0].Kind == api.XText {
			t.Errorf("P0.3: what Sheet answers of tree %d without end is the tree itself", i)
		}
	}
	first := Refs(looped(7))
	for i := range 50 {
		if int(first[i].Row) != (i+1)%7 {
			t.Errorf("P9.1: the reference %d of a tree without end is %+v", i, first[i])
		}
	}
}

// In a copy no list is one of the tree's, however deep it stands and however many nodes were ahead of it.
func TestCopiesOfTreesWithoutEnd(t *testing.T) {
	e := looped(3)
	its := map[*api.Expr]int{&e.Kids[0]: 1, &e.Kids[1].Kids[0]: 1, &e.Kids[1].Kids[1].Kids[0]: 1}
	node := Lines(e, here, here, true, ins(0))
	for range 300000 {
		if its[&node.Kids[0]] != 0 {
			t.Fatal("P0.3: a copy stands on the tree's own memory")
		}
		node = node.Kids[1]
	}
}

func TestTreesOfManyNodes(t *testing.T) {
	const many = 150000
	deep := nest(many, ref(api.Ref{Row: 9}), neg)
	refs := make([]api.Expr, many)
	want := make([]api.Ref, many)
	for i := range refs {
		want[i] = api.Ref{Row: int64(i), Col: 2}
		refs[i] = ref(want[i])
	}
	wide := call("F", refs...)
	comb := num(1)
	for i := many - 1; i >= 0; i-- {
		comb = bin(refs[i], "+", comb)
	}
	for what, e := range map[string]api.Expr{"deep": deep, "wide": wide, "a comb": comb} {
		if got := Lines(e, here, here, true, ins(0)); !parse.Eq(got, e) {
			t.Errorf("P9.1, P0.1: Lines of a tree that is %s is another", what)
		}
		if got := Sheet(e, here, here); !parse.Eq(got, e) {
			t.Errorf("P9.1, P0.1: Sheet of a tree that is %s is another", what)
		}
	}
	if !slices.Equal(Refs(deep), []api.Ref{{Row: 9}}) || !slices.Equal(Refs(wide), want) || !slices.Equal(Refs(comb), want) {
		t.Error("P9.1, P0.1: Refs of trees of many nodes")
	}
	long := api.Expr{Kind: api.XRef, Refs: want}
	if got := Lines(long, here, here, true, ins(0)); !slices.Equal(got.Refs, want) || !slices.Equal(Refs(long), want) {
		t.Error("P9.1, P0.1: a node of many references")
	}
}

func TestEmptyLists(t *testing.T) {
	e := call("F", num(1), ref(api.Ref{}), call("G"))
	x := call("F", api.Expr{Kind: api.XNum, Num: 10000, Refs: []api.Ref{}, Kids: []api.Expr{}}, api.Expr{Kind: api.XRef, Refs: []api.Ref{{}}, Kids: make([]api.Expr, 0, 3)}, api.Expr{Kind: api.XCall, Text: "G", Refs: make([]api.Ref, 0, 3), Kids: []api.Expr{}})
	for _, l := range append(wrongLines(), ins(0), del(0)) {
		if tell(Lines(e, here, here, true, l)) != tell(Lines(x, here, here, true, l)) {
			t.Error("P0.4: Lines tells nil lists from empty ones")
		}
	}
	if tell(Sheet(e, here, here)) != tell(Sheet(x, here, here)) || !slices.Equal(Refs(e), Refs(x)) {
		t.Error("P0.4: Sheet or Refs tells nil lists from empty ones")
	}
}

// What becomes #REF! has nothing else left of what it was.
func TestLostReferencesAreErrorsAlone(t *testing.T) {
	for _, e := range []api.Expr{ref(api.Ref{Row: 2, RowAbs: true}), area(api.Ref{Row: 2, Sheet: here}, api.Ref{Row: 4}), area(api.Ref{Row: 4}, api.Ref{Row: 2})} {
		for _, got := range []api.Expr{Lines(e, here, here, true, del(2)), Sheet(e, here, here)} {
			if tell(got) != tell(fault(api.ERef)) || len(got.Refs) > 0 || len(got.Kids) > 0 {
				t.Errorf("P9.1, P0.2: %s has become %s", show.Formula(e), tell(got))
			}
		}
	}
}

// roomy is e with spare room behind each of its lists, all of them full of marks.
func roomy(e api.Expr) api.Expr {
	refs := append(slices.Clone(e.Refs), api.Ref{Sheet: "mark"}, api.Ref{Row: 77})
	kids := append(slices.Clone(e.Kids), text("mark"), num(77))
	for i, kid := range e.Kids {
		kids[i] = roomy(kid)
	}
	e.Refs, e.Kids = refs[:len(e.Refs)], kids[:len(e.Kids)]
	return e
}

// whole tells e with the spare room of its lists.
func whole(e api.Expr) string {
	s := tell(api.Expr{Kind: e.Kind, Num: e.Num, Text: e.Text, Bool: e.Bool, Err: e.Err, Refs: e.Refs[:cap(e.Refs)]})
	for i, kid := range e.Kids[:cap(e.Kids)] {
		if i < len(e.Kids) {
			s += " (" + whole(kid) + ")"
		} else {
			s += " (" + tell(kid) + ")"
		}
	}
	return s
}

// fill writes into all lists of e, from the deepest, and into their spare room.
func fill(e api.Expr) {
	for i := range e.Kids {
		fill(e.Kids[i])
	}
	refs, kids := e.Refs[:cap(e.Refs)], e.Kids[:cap(e.Kids)]
	for i := range refs {
		refs[i] = api.Ref{Row: 99}
	}
	for i := range kids {
		kids[i] = num(99)
	}
}

// lists adds where the lists of e lie, from the first byte to behind the last one of their spare room, to l.
func lists(l [][2]uintptr, e api.Expr) [][2]uintptr {
	if cap(e.Refs) > 0 {
		from := uintptr(unsafe.Pointer(unsafe.SliceData(e.Refs)))
		l = append(l, [2]uintptr{from, from + uintptr(cap(e.Refs))*unsafe.Sizeof(api.Ref{})})
	}
	if cap(e.Kids) > 0 {
		from := uintptr(unsafe.Pointer(unsafe.SliceData(e.Kids)))
		l = append(l, [2]uintptr{from, from + uintptr(cap(e.Kids))*unsafe.Sizeof(api.Expr{})})
	}
	for _, kid := range e.Kids {
		l = lists(l, kid)
	}
	return l
}

// checkMemory asks whether the lists of an answer are its own, each of them.
func checkMemory(t *testing.T, what string, e, answer api.Expr) {
	t.Helper()
	l := lists(nil, answer)
	slices.SortFunc(l, func(a, b [2]uintptr) int { return int(a[0]) - int(b[0]) })
	for i := 1; i < len(l); i++ {
		if l[i][0] < l[i-1][1] {
			t.Errorf("P0.3: two lists of what %s answers share memory", what)
		}
	}
	before := whole(e)
	fill(answer)
	if whole(e) != before {
		t.Errorf("P0.3: what %s answers shares memory with its argument, %.100s", what, tell(e))
	}
}

// memoryTrees are trees that may be and trees that may not, some of them with lists that share memory.
func memoryTrees() []api.Expr {
	d := dice(5)
	var l []api.Expr
	for range 100 {
		l = append(l, d.tree(60, 50))
	}
	for _, e := range wrongTrees() {
		if parse.Count(e) <= api.MaxNodes {
			l = append(l, around(e)...)
		}
	}
	for i, e := range l {
		l[i] = roomy(e)
	}
	room := []api.Ref{{}, {Row: 1}, {Row: 2}}
	kids := []api.Expr{num(1), ref(api.Ref{}), {Kind: api.XRange, Refs: room[:2]}, {Kind: api.XRange, Refs: room[1:]}, {Kind: api.XRef, Refs: room[:1]}}
	shared := api.Expr{Kind: api.XCall, Text: "G", Kids: kids}
	return append(l, api.Expr{Kind: api.XCall, Text: "F", Kids: []api.Expr{shared, shared, {Kind: api.XNeg, Kids: kids[1:2]}}}, doubled(6, ref(api.Ref{})), doubled(9, ref(api.Ref{})))
}

func TestMemory(t *testing.T) {
	for _, e := range memoryTrees() {
		before := whole(e)
		for _, l := range []api.Line{ins(3), del(1), moved(2, 0), {}} {
			checkMemory(t, "Lines", e, Lines(e, here, here, true, l))
			checkMemory(t, "Lines", e, Lines(e, here, there, false, l))
		}
		for _, gone := range []string{here, there, ""} {
			checkMemory(t, "Sheet", e, Sheet(e, here, gone))
		}
		refs := Refs(e)
		again := slices.Clone(refs)
		other := Refs(e)
		for i := range refs[:cap(refs)] {
			refs[:cap(refs)][i] = api.Ref{Row: 99}
		}
		if whole(e) != before {
			t.Errorf("P0.3: %.100s is changed", tell(e))
		}
		if !slices.Equal(other, again) || !slices.Equal(Refs(e), again) {
			t.Errorf("P0.3: two answers of Refs share memory")
		}
	}
}

// Spare room behind a list counts for nothing.
func TestSpareRoom(t *testing.T) {
	d := dice(6)
	for range 200 {
		e := d.tree(60, 50)
		for _, l := range []api.Line{ins(3), del(1), {}} {
			if tell(Lines(roomy(e), here, here, true, l)) != tell(Lines(e, here, here, true, l)) {
				t.Errorf("P0.3: spare room is told by Lines of %s", show.Formula(e))
			}
		}
		if tell(Sheet(roomy(e), here, here)) != tell(Sheet(e, here, here)) || !slices.Equal(Refs(roomy(e)), Refs(e)) {
			t.Errorf("P0.3: spare room is told by Sheet or Refs of %s", show.Formula(e))
		}
	}
}

// Texts of an answer are no pieces of the argument's, nor of the names that are handed in.
func TestTextsAreNewMemory(t *testing.T) {
	build := func(room []byte) api.Expr {
		s := unsafe.String(&room[0], len(room))
		return call(s[:3], text(s[3:6]), ref(api.Ref{Sheet: s[6:10], Row: 5}), area(api.Ref{Sheet: s[6:10], Row: 5}, api.Ref{}), bin(num(1), s[10:11], num(2)))
	}
	for what, f := range map[string]func(e api.Expr) api.Expr{
		"Lines":                   func(e api.Expr) api.Expr { return Lines(e, there, here, true, ins(0)) },
		"Lines of another sheet":  func(e api.Expr) api.Expr { return Lines(e, here, there, true, ins(0)) },
		"Lines with no operation": func(e api.Expr) api.Expr { return Lines(e, here, here, true, api.Line{}) },
		"Lines of a wrong tree":   func(e api.Expr) api.Expr { return Lines(neg(call("", e)), here, here, true, ins(0)) },
		"Sheet of another sheet":  func(e api.Expr) api.Expr { return Sheet(e, here, there) },
		"Sheet without a name":    func(e api.Expr) api.Expr { return Sheet(e, here, "") },
	} {
		room := []byte("SUMabcc0n0+")
		e := build(room)
		answer, refs := f(e), Refs(e)
		before, told := tell(answer), fmt.Sprint(refs)
		for i := range room {
			room[i] = 'x'
		}
		if tell(answer) != before || fmt.Sprint(refs) != told {
			t.Errorf("P0.3: what %s or Refs answers has pieces of its argument: %s, not %s", what, tell(answer), before)
		}
	}
}

func TestSameAnswerAgain(t *testing.T) {
	d := dice(7)
	for range 200 {
		e := d.tree(60, 50)
		a, b := Lines(e, here, here, true, del(2)), Sheet(e, here, there)
		first, second, refs := tell(a), tell(b), slices.Clone(Refs(e))
		fill(a)
		fill(b)
		if tell(Lines(e, here, here, true, del(2))) != first || tell(Sheet(e, here, there)) != second || !slices.Equal(Refs(e), refs) {
			t.Errorf("P0.5: another answer of %s the second time", show.Formula(e))
		}
	}
}
