package show

import (
	"fmt"
	"math/bits"
	"regexp"
	"slices"
	"strings"
	"testing"
	"unicode/utf8"
	"unsafe"

	"counterpane/api"
	"counterpane/fixnum"
	"counterpane/parse"
)

// tell writes a tree with all its fields, those of other kinds too.
func tell(e api.Expr) string {
	s := fmt.Sprint(e.Kind)
	if e.Num != 0 {
		s += fmt.Sprint(" num ", int64(e.Num))
	}
	if e.Text != "" {
		s += fmt.Sprintf(" %q", e.Text)
	}
	if e.Bool {
		s += " true"
	}
	if e.Err != 0 {
		s += fmt.Sprint(" err ", e.Err)
	}
	for _, r := range e.Refs {
		s += fmt.Sprintf(" %+v", r)
	}
	for _, kid := range e.Kids {
		s += " (" + tell(kid) + ")"
	}
	return s
}

func tellCell(c api.Cell) string {
	return fmt.Sprintf("%v %+v %q %s", c.Formula, c.Value, c.Value.Text, tell(c.Expr))
}

// The trees that tests ask about.

func num(n api.Fix) api.Expr    { return api.Expr{Kind: api.XNum, Num: n * 10000} }
func text(s string) api.Expr    { return api.Expr{Kind: api.XText, Text: s} }
func truth(b bool) api.Expr     { return api.Expr{Kind: api.XBool, Bool: b} }
func fault(err int) api.Expr    { return api.Expr{Kind: api.XErr, Err: err} }
func neg(kid api.Expr) api.Expr { return api.Expr{Kind: api.XNeg, Kids: []api.Expr{kid}} }

func bin(a api.Expr, operator string, b api.Expr) api.Expr {
	return api.Expr{Kind: api.XBin, Text: operator, Kids: []api.Expr{a, b}}
}

func call(name string, kids ...api.Expr) api.Expr {
	return api.Expr{Kind: api.XCall, Text: name, Kids: slices.Clone(kids)}
}

func ref(r api.Ref) api.Expr {
	return api.Expr{Kind: api.XRef, Refs: []api.Ref{r}}
}

func area(a, b api.Ref) api.Expr {
	return api.Expr{Kind: api.XRange, Refs: []api.Ref{a, b}}
}

// nest is e within n calls of wrap.
func nest(n int, e api.Expr, wrap func(api.Expr) api.Expr) api.Expr {
	for range n {
		e = wrap(e)
	}
	return e
}

var (
	cellA1 = api.Ref{}
	cellB2 = api.Ref{Row: 1, Col: 1}
	farC3  = api.Ref{Sheet: "c1n2", Row: 2, Col: 2, RowAbs: true}
)

var operators = []string{"=", "<>", "<", "<=", ">", ">=", "&", "+", "-", "*", "/"}

// rank is the document's order of operators, the weakest first.
func rank(operator string) int {
	return slices.IndexFunc([]string{" = <> < <= > >= ", " & ", " + - ", " * / "}, func(s string) bool {
		return strings.Contains(s, " "+operator+" ")
	})
}

func checkFormula(t *testing.T, e api.Expr, want string) {
	t.Helper()
	got := Formula(e)
	if got != want {
		t.Errorf("P8.1: Formula(%.200s) is %.200q, not %.200q", tell(e), got, want)
	}
	if c := (api.Cell{Formula: true, Expr: e}); Cell(c) != "="+want {
		t.Errorf("P8.2: Cell of %.200s is %.200q, not %.200q", tell(e), Cell(c), "="+want)
	}
	if len(got) <= 1000 {
		checkAgain(t, e, got)
	}
}

// checkAgain asks whether parse, and Read behind a =, give e again.
func checkAgain(t *testing.T, e api.Expr, s string) {
	t.Helper()
	again, err := parse.Parse(s)
	if err != api.OK || tell(again) != tell(e) {
		t.Errorf("P8.1: Parse of %.200q, the Formula of %.200s, is %.200s, %d", s, tell(e), tell(again), err)
	}
	c, err := Read("=" + s)
	if want := (api.Cell{Formula: true, Expr: e}); err != api.OK || tellCell(c) != tellCell(want) || !May(c) {
		t.Errorf("P8.2: Read of %.200q is %.200s, %d", "="+s, tellCell(c), err)
	}
}

// thing is a tree that never stands in brackets, and its text.
type thing struct {
	tree    api.Expr
	written string
}

func things() []thing {
	l := []thing{
		{num(0), "0"},
		{num(7), "7"},
		{api.Expr{Kind: api.XNum, Num: 1}, "0.0001"},
		{api.Expr{Kind: api.XNum, Num: 15000}, "1.5"},
		{api.Expr{Kind: api.XNum, Num: 1<<63 - 1}, "922337203685477.5807"},
		{text(""), `""`},
		{text("x"), `"x"`},
		{text(" a b "), `" a b "`},
		{text("-"), `"-"`},
		{text("(1+2)*3"), `"(1+2)*3"`},
		{text("="), `"="`},
		{text("'"), `"'"`},
		{text(`"`), `""""`},
		{text(`""`), `""""""`},
		{text(`a"b`), `"a""b"`},
		{text(`"a"`), `"""a"""`},
		{text(`a","b`), `"a"",""b"`},
		{text(`\"`), `"\"""`},
		{text("é🙂\x00\n"), "\"é🙂\x00\n\""},
		{text(strings.Repeat("x", 200)), `"` + strings.Repeat("x", 200) + `"`},
		{text(strings.Repeat(`"`, 200)), `"` + strings.Repeat(`""`, 200) + `"`},
		{truth(true), "TRUE"},
		{truth(false), "FALSE"},
		{ref(cellA1), "A1"},
		{ref(api.Ref{Row: 1, Col: 1, ColAbs: true}), "$B2"},
		{ref(api.Ref{Row: 9, Col: 26, RowAbs: true}), "AA$10"},
		{ref(api.Ref{Row: 1, Col: 1, RowAbs: true, ColAbs: true}), "$B$2"},
		{ref(farC3), "c1n2!C$3"},
		{ref(api.Ref{Sheet: "c15n999999", Row: api.MaxLine - 1, Col: api.MaxLine - 1}), "c15n999999!JMTMMTQOF2199023255552"},
		{area(cellA1, cellB2), "A1:B2"},
		{area(cellB2, cellA1), "B2:A1"},
		{area(cellA1, cellA1), "A1:A1"},
		{area(farC3, cellB2), "c1n2!C$3:B2"},
		{area(api.Ref{RowAbs: true, ColAbs: true}, api.Ref{Row: 1, Col: 1, ColAbs: true}), "$A$1:$B2"},
		{call("F"), "F()"},
		{call("SUM", num(1)), "SUM(1)"},
		{call("SUM", area(cellA1, cellB2), text(`a"b`), truth(true), fault(7)), `SUM(A1:B2,"a""b",TRUE,#N/A)`},
		{call("F", bin(num(1), "=", num(2)), bin(num(3), "*", bin(num(4), "+", num(5))), neg(neg(num(6)))), "F(1=2,3*(4+5),--6)"},
		{call("F", call("G"), call("H", num(1), call("I", num(2)))), "F(G(),H(1,I(2)))"},
		{call("TRUEX", truth(false)), "TRUEX(FALSE)"},
		{call("ABCDEFGHIJKLMNOPQRST", text("")), `ABCDEFGHIJKLMNOPQRST("")`},
		{call("F", slices.Repeat([]api.Expr{num(1)}, 30)...), "F(" + strings.Repeat("1,", 29) + "1)"},
	}
	for i, name := range []string{"#REF!", "#CYCLE!", "#DIV/0!", "#NUM!", "#VALUE!", "#NAME?", "#N/A"} {
		l = append(l, thing{fault(i + 1), name})
	}
	return l
}

func TestThingsWithoutBrackets(t *testing.T) {
	for _, x := range things() {
		checkFormula(t, x.tree, x.written)
		checkFormula(t, neg(x.tree), "-"+x.written)
		checkFormula(t, neg(neg(x.tree)), "--"+x.written)
		checkFormula(t, call("F", x.tree), "F("+x.written+")")
		checkFormula(t, call("F", neg(x.tree), x.tree), "F(-"+x.written+","+x.written+")")
		for _, o := range operators {
			checkFormula(t, bin(x.tree, o, num(1)), x.written+o+"1")
			checkFormula(t, bin(num(1), o, x.tree), "1"+o+x.written)
			checkFormula(t, bin(neg(x.tree), o, neg(neg(x.tree))), "-"+x.written+o+"--"+x.written)
			checkFormula(t, neg(bin(x.tree, o, num(1))), "-("+x.written+o+"1)")
			checkFormula(t, call("F", bin(x.tree, o, x.tree)), "F("+x.written+o+x.written+")")
		}
	}
}

func TestOperatorsWithinOneAnother(t *testing.T) {
	one, two, three := num(1), num(2), num(3)
	for _, a := range operators {
		for _, b := range operators {
			left, right := "1"+a+"2", "2"+a+"3"
			if rank(a) < rank(b) {
				left = "(" + left + ")"
			}
			if rank(a) <= rank(b) {
				right = "(" + right + ")"
			}
			checkFormula(t, bin(bin(one, a, two), b, three), left+b+"3")
			checkFormula(t, bin(one, b, bin(two, a, three)), "1"+b+right)
			checkFormula(t, bin(neg(bin(one, a, two)), b, three), "-(1"+a+"2)"+b+"3")
			checkFormula(t, bin(one, b, neg(bin(two, a, three))), "1"+b+"-(2"+a+"3)")
			checkFormula(t, neg(bin(bin(one, a, two), b, three)), "-("+left+b+"3)")
			checkFormula(t, neg(neg(bin(one, b, bin(two, a, three)))), "--(1"+b+right+")")
			checkFormula(t, bin(call("F", bin(one, a, two)), b, three), "F(1"+a+"2)"+b+"3")
			checkFormula(t, bin(one, b, call("F", bin(two, a, three))), "1"+b+"F(2"+a+"3)")
			checkFormula(t, call("F", bin(bin(one, a, two), b, three), bin(one, b, bin(two, a, three))), "F("+left+b+"3,1"+b+right+")")
		}
	}
}

func TestBrackets(t *testing.T) {
	for _, s := range []string{
		"1+2*3", "(1+2)*3", "1-2-3", "1-(2-3)", "1-2+3", "1-(2+3)", "1+(2+3)", "8/4/2", "8/(4/2)", "8*(4*2)", "8*(4/2)", "1&2&3", "1&(2&3)", "1=2=3", "1=(2=3)", "1<(2>=3)", "1<>2<>3",
		"(1&2)+3", "1&2+3", "(1=2)&3", "1=2&3", "(1&2)*(3-4)", "1&2=3&4+5", "(1+2)*(3+4)", "1*2+3*4", "(1=2)*(3=4)",
		"-1*2", "-(1*2)", "-(1=2)", "--(1+2)", "-(-1+2)", "-F(1+2)", "1--2", "1---2", "1<-2", "1*-(2*3)", "1-(-2-3)", "1-(2*3-4)", "-(1+2)*-(3+4)",
		"F((1+2)*3,4)", "IF(A1<>2,-(B2+C3),(4&5)+6)", "((1+2)*3-4)*5", "1*(2-(3-4*(5+6)))",
	} {
		e, err := parse.Parse(s)
		if err != api.OK {
			t.Fatalf("the test's own %q is no formula", s)
		}
		checkFormula(t, e, s)
	}
	for s, want := range map[string]string{
		"(1=2)=3": "1=2=3", "(1)": "1", "((1+2))": "1+2", "(1*2)+3": "1*2+3", "1+(2*3)": "1+2*3", "(-1)*2": "-1*2", "2*(-1)": "2*-1", "-(1)": "-1", "-(-1)": "--1", "-(F(1))": "-F(1)", "(F(1))*2": "F(1)*2", "F((1+2))": "F(1+2)", "(1-2)-3": "1-2-3", " 1 + 2 ": "1+2", "(A1:B2)&(\"x\")": `A1:B2&"x"`, "-(TRUE)": "-TRUE", "1.50": "1.5", "F( 1 , 2 )": "F(1,2)", "A1 : B2": "A1:B2",
	} {
		e, _ := parse.Parse(s)
		checkFormula(t, e, want)
	}
}

// model writes e with brackets round those nodes, counted from the first on, whose bits are set.
func model(e api.Expr, brackets uint) string {
	n := 0
	var walk func(e api.Expr) string
	walk = func(e api.Expr) string {
		bit := brackets >> n & 1
		n++
		kids := make([]string, len(e.Kids))
		for i, kid := range e.Kids {
			kids[i] = walk(kid)
		}
		s := "1"
		switch e.Kind {
		case api.XNeg:
			s = "-" + kids[0]
		case api.XBin:
			s = kids[0] + e.Text + kids[1]
		case api.XCall:
			s = "F(" + strings.Join(kids, ",") + ")"
		}
		if bit == 1 {
			return "(" + s + ")"
		}
		return s
	}
	return walk(e)
}

// small are all trees of so many nodes, of ones, -, calls of two trees and the operators.
func small(nodes int, between []string) []api.Expr {
	if nodes == 1 {
		return []api.Expr{num(1)}
	}
	var l []api.Expr
	for _, kid := range small(nodes-1, between) {
		l = append(l, neg(kid))
	}
	for left := 1; left < nodes-1; left++ {
		rights := small(nodes-1-left, between)
		for _, a := range small(left, between) {
			for _, b := range rights {
				l = append(l, call("F", a, b))
				for _, o := range between {
					l = append(l, bin(a, o, b))
				}
			}
		}
	}
	return l
}

// All ways to set brackets are tried: Formula is the one with the fewest of those of which parse gives the tree.
func TestFewestBrackets(t *testing.T) {
	for nodes := 1; nodes <= 7; nodes++ {
		between := []string{"=", "&", "-", "*"}
		if nodes < 6 {
			between = operators
		}
		if nodes == 7 {
			between = []string{"-", "*"}
		}
		for _, e := range small(nodes, between) {
			best, fewest := "", nodes+1
			for brackets := range uint(1) << nodes {
				if bits.OnesCount(brackets) >= fewest {
					continue
				}
				s := model(e, brackets)
				if again, err := parse.Parse(s); err == api.OK && parse.Eq(again, e) {
					best, fewest = s, bits.OnesCount(brackets)
				}
			}
			if got := Formula(e); got != best {
				t.Fatalf("P8.1: Formula(%s) is %q, not %q", tell(e), got, best)
			}
		}
	}
}

// A small generator of its own, so that each run asks the same.
type dice uint64

func (d *dice) throw(n int) int {
	*d = *d*6364136223846793005 + 1442695040888963407
	return int(uint64(*d) >> 33 % uint64(n))
}

// tree is one of at most so many nodes, and at most most deep.
func (d *dice) tree(nodes, most int) api.Expr {
	if nodes < 3 || most == 1 || d.throw(8) == 0 {
		leaves := things()[:34]
		return leaves[d.throw(len(leaves))].tree
	}
	switch d.throw(5) {
	case 0:
		return neg(d.tree(nodes-1, most-1))
	case 1:
		n := min(d.throw(5), nodes-1)
		kids := make([]api.Expr, n)
		for i := range kids {
			kids[i] = d.tree((nodes-1)/n, most-1)
		}
		return call([]string{"F", "SUM", "ABCDEFGHIJKLMNOPQRST"}[d.throw(3)], kids...)
	}
	left := 1 + d.throw(nodes-2)
	return bin(d.tree(left, most-1), operators[d.throw(len(operators))], d.tree(nodes-1-left, most-1))
}

// pairs are the places of the brackets of a formula that are no call's.
func pairs(s string) [][2]int {
	var open []int
	var l [][2]int
	quoted := false
	for i := range len(s) {
		switch {
		case s[i] == '"':
			quoted = !quoted
		case quoted:
		case s[i] == '(':
			open = append(open, i)
		case s[i] == ')':
			from := open[len(open)-1]
			open = open[:len(open)-1]
			if from == 0 || s[from-1] < 'A' || s[from-1] > 'Z' {
				l = append(l, [2]int{from, i})
			}
		}
	}
	return l
}

// Of great trees each pair of brackets is needed: without it parse gives another tree, or none.
func TestEachPairOfBracketsIsNeeded(t *testing.T) {
	d := dice(3)
	bracketed := 0
	for range 3000 {
		e := d.tree(2+d.throw(100), 50)
		s := Formula(e)
		if !parse.May(e) || s == "" {
			t.Fatalf("P8.1: Formula(%.200s) is %q", tell(e), s)
		}
		if strings.Contains(outsideTexts(s), " ") {
			t.Errorf("P8.1: there is a blank in %q", s)
		}
		if len(s) > 1000 {
			continue
		}
		checkAgain(t, e, s)
		for _, p := range pairs(s) {
			bracketed++
			bare := s[:p[0]] + s[p[0]+1:p[1]] + s[p[1]+1:]
			if again, err := parse.Parse(bare); err == api.OK && parse.Eq(again, e) {
				t.Errorf("P8.1: Formula is %.200q, but %.200q would do", s, bare)
			}
		}
	}
	if bracketed < 5000 {
		t.Errorf("only %d pairs of brackets were asked about", bracketed)
	}
}

func outsideTexts(s string) string {
	return regexp.MustCompile(`(?s)"[^"]*"`).ReplaceAllString(s, "")
}

// deepWays are ways to go one deeper, and what they write ahead of and behind the tree.
func deepWays() []struct {
	wrap          func(api.Expr) api.Expr
	ahead, behind string
} {
	return []struct {
		wrap          func(api.Expr) api.Expr
		ahead, behind string
	}{
		{neg, "-", ""},
		{func(e api.Expr) api.Expr { return bin(e, "-", num(1)) }, "", "-1"},
		{func(e api.Expr) api.Expr { return call("F", e) }, "F(", ")"},
		{func(e api.Expr) api.Expr { return call("F", num(1), e, num(2)) }, "F(1,", ",2)"},
	}
}

func TestDeepTrees(t *testing.T) {
	for i, way := range deepWays() {
		for _, n := range []int{1, 2, 48, 49} {
			checkFormula(t, nest(n, num(7), way.wrap), strings.Repeat(way.ahead, n)+"7"+strings.Repeat(way.behind, n))
		}
		for _, n := range []int{50, 51, 200, 100000} {
			checkNoTree(t, fmt.Sprint("deep way ", i, ", ", n), nest(n, num(7), way.wrap))
		}
	}
	right := func(e api.Expr) api.Expr { return bin(num(1), "*", e) }
	checkFormula(t, nest(49, num(7), right), strings.Repeat("1*(", 48)+"1*7"+strings.Repeat(")", 48))
	checkNoTree(t, "deep to the right", nest(50, num(7), right))
	both := func(e api.Expr) api.Expr { return neg(bin(e, "&", num(1))) }
	checkFormula(t, nest(24, num(7), both), strings.Repeat("-(", 24)+"7"+strings.Repeat("&1)", 24))
	checkNoTree(t, "deep both ways", nest(25, num(7), both))
}

// wide is a tree of so many nodes, 33 or more, and its text.
func wide(nodes int) (api.Expr, string) {
	list := func(n int) (api.Expr, string) {
		return call("F", slices.Repeat([]api.Expr{num(1)}, n)...), "F(" + strings.TrimSuffix(strings.Repeat("1,", n), ",") + ")"
	}
	e, s := list(30)
	nodes -= 31
	for nodes > 1 {
		n := min(nodes-2, 30)
		more, written := list(n)
		e, s = bin(e, "+", more), s+"+"+written
		nodes -= n + 2
	}
	if nodes == 1 {
		return neg(e), "-(" + s + ")"
	}
	return e, s
}

func TestTreesOfManyNodes(t *testing.T) {
	for _, n := range []int{33, 64, 100, 192, 198, 199, 200} {
		e, s := wide(n)
		if parse.Count(e) != n {
			t.Fatalf("the test's own tree has %d nodes, not %d", parse.Count(e), n)
		}
		checkFormula(t, e, s)
	}
	for _, n := range []int{201, 202, 300} {
		e, _ := wide(n)
		checkNoTree(t, fmt.Sprint(n, " nodes"), e)
	}
}

// A formula may be written that is longer than parse reads.
func TestLongFormulas(t *testing.T) {
	letters := strings.Repeat("a", 192)
	for last := range 201 {
		kids := slices.Repeat([]api.Expr{text(letters)}, 5)
		kids[4] = text(strings.Repeat("b", last))
		want := "F(" + strings.Repeat(`"`+letters+`",`, 4) + `"` + strings.Repeat("b", last) + `")`
		e := call("F", kids...)
		checkFormula(t, e, want)
		c := api.Cell{Formula: true, Expr: e}
		again, err := Read(Cell(c))
		if len(want) <= 1000 && (err != api.OK || tellCell(again) != tellCell(c)) {
			t.Errorf("P8.2: a formula of %d bytes is not read again: %d", len(want), err)
		}
		if len(want) > 1000 && (err != api.ErrSyntax || tellCell(again) != tellCell(api.Cell{})) {
			t.Errorf("P8.2: a formula of %d bytes is read: %d", len(want), err)
		}
	}
	// Each sign " is written twice, so that far more than 1,000 bytes are needed.
	kids := slices.Repeat([]api.Expr{text(strings.Repeat(`"`, 200))}, 30)
	e := call("ABCDEFGHIJKLMNOPQRST", kids...)
	written := `"` + strings.Repeat(`""`, 200) + `"`
	want := "ABCDEFGHIJKLMNOPQRST(" + strings.TrimSuffix(strings.Repeat(written+",", 30), ",") + ")"
	checkFormula(t, e, want)
	checkFormula(t, bin(bin(e, "+", e), "*", bin(e, "+", e)), "("+want+"+"+want+")*("+want+"+"+want+")")
}

// checkNoTree is of trees that may not be.
func checkNoTree(t *testing.T, what string, e api.Expr) {
	t.Helper()
	if got := Formula(e); got != "" {
		t.Errorf("P8.1: Formula of what may not be (%s) is %.200q", what, got)
	}
	checkNoCell(t, what, api.Cell{Formula: true, Expr: e})
	checkNoCell(t, what, api.Cell{Expr: e})
}

// checkNoCell is of cells that may not be.
func checkNoCell(t *testing.T, what string, c api.Cell) {
	t.Helper()
	if May(c) {
		t.Errorf("P8.2: May is true of %s", what)
	}
	if got := Cell(c); got != "" {
		t.Errorf("P8.2: Cell of what may not be (%s) is %.200q", what, got)
	}
}

func wrongTrees() map[string]api.Expr {
	zero := api.Expr{}
	return map[string]api.Expr{
		"a kind below":              {Kind: -1, Num: 1},
		"a kind beyond":             {Kind: 10},
		"a number below 0":          {Kind: api.XNum, Num: -1},
		"the least number":          {Kind: api.XNum, Num: -1 << 63},
		"a number with a text":      {Kind: api.XNum, Num: 1, Text: "x"},
		"a text of 201 bytes":       text(strings.Repeat("x", 201)),
		"a text of 101 letters é":   text(strings.Repeat("é", 101)),
		"a text that is no UTF-8":   text("a\xff"),
		"a half letter":             text("\xc3"),
		"a truth with a number":     {Kind: api.XBool, Bool: true, Num: 1},
		"the error 0":               fault(0),
		"the error 8":               fault(8),
		"the error -1":              fault(-1),
		"no Ref":                    {Kind: api.XRef},
		"two Refs":                  {Kind: api.XRef, Refs: []api.Ref{{}, {}}},
		"a lost row":                ref(api.Ref{Row: -1}),
		"a lost column":             ref(api.Ref{Col: -1}),
		"a row beyond":              ref(api.Ref{Row: api.MaxLine}),
		"a column beyond":           ref(api.Ref{Col: api.MaxLine}),
		"a sheet that is none":      ref(api.Ref{Sheet: "c16n0"}),
		"a range of one":            {Kind: api.XRange, Refs: []api.Ref{{}}},
		"a range of three":          {Kind: api.XRange, Refs: []api.Ref{{}, {}, {}}},
		"a range with a lost end":   area(cellA1, api.Ref{Row: -1}),
		"a range of two sheets":     area(cellA1, farC3),
		"a - with nothing":          {Kind: api.XNeg},
		"a - with two":              {Kind: api.XNeg, Kids: []api.Expr{num(1), num(2)}},
		"a - with a text":           {Kind: api.XNeg, Text: "-", Kids: []api.Expr{num(1)}},
		"an operator with one side": {Kind: api.XBin, Text: "+", Kids: []api.Expr{num(1)}},
		"an operator with three":    {Kind: api.XBin, Text: "+", Kids: []api.Expr{num(1), num(2), num(3)}},
		"no operator":               bin(num(1), "", num(2)),
		"another operator":          bin(num(1), "^", num(2)),
		"a name without letters":    call("", num(1)),
		"a name of small letters":   call("sum", num(1)),
		"a truth's name":            call("TRUE"),
		"a name of 21 letters":      call(strings.Repeat("A", 21)),
		"a call with 31":            call("F", slices.Repeat([]api.Expr{num(1)}, 31)...),
		"a call with a zero tree":   call("F", zero),
	}
}

// doubled stands on one tree at both sides of each node, so that it has more nodes than can be gone through.
func doubled(n int) api.Expr {
	return nest(n, num(1), func(e api.Expr) api.Expr { return bin(e, "+", e) })
}

// looped is a tree that is its own kid.
func looped() api.Expr {
	kids := []api.Expr{{Kind: api.XNeg}}
	kids[0].Kids = kids
	return kids[0]
}

func TestTreesThatMayNotBe(t *testing.T) {
	for what, e := range wrongTrees() {
		checkNoTree(t, what, e)
		checkNoTree(t, what+", within -", neg(e))
		checkNoTree(t, what+", on the left", bin(e, "*", num(1)))
		checkNoTree(t, what+", on the right", bin(num(1), "<=", bin(num(1), "&", e)))
		checkNoTree(t, what+", within a call", call("F", num(1), e))
	}
	if Formula(api.Expr{}) != "" {
		t.Error("P8.1: Formula of a zero tree is not empty")
	}
	checkNoCell(t, "a formula that is zero", api.Cell{Formula: true})
	for _, e := range []api.Expr{doubled(7), doubled(48), doubled(1000), looped(), bin(num(1), "+", looped())} {
		checkNoTree(t, "a tree without end", e)
	}
}

// written is what one writes into a cell, and the value that is to stand there.
type written struct {
	s string
	v api.Value
}

func number(n api.Fix) api.Value     { return api.Value{Kind: api.VNumber, Num: n} }
func textValueOf(s string) api.Value { return api.Value{Kind: api.VText, Text: s} }
func truthValue(b bool) api.Value    { return api.Value{Kind: api.VBool, Bool: b} }
func faultValue(err int) api.Value   { return api.Value{Kind: api.VError, Err: err} }

// asShown are texts that Cell answers, each with the value that it is of.
func asShown() []written {
	l := []written{
		{"", api.Value{}},
		{"0", number(0)}, {"7", number(70000)}, {"-3", number(-30000)}, {"1.5", number(15000)}, {"0.0001", number(1)}, {"-0.0001", number(-1)},
		{"922337203685477.5807", number(1<<63 - 1)}, {"-922337203685477.5808", number(-1 << 63)},
		{"TRUE", truthValue(true)}, {"FALSE", truthValue(false)},
		{"#REF!", faultValue(1)}, {"#CYCLE!", faultValue(2)}, {"#DIV/0!", faultValue(3)}, {"#NUM!", faultValue(4)}, {"#VALUE!", faultValue(5)}, {"#NAME?", faultValue(6)}, {"#N/A", faultValue(7)},
	}
	// Texts that mean themselves.
	for _, s := range []string{
		"a", "hello", " ", "  ", " 1", "1 ", "+1", "01", "-01", "1.", ".5", "1.23456", "1,5", "1e3", "--1", "- 1", "-", "922337203685477.5808", "-922337203685477.5809", "99999999999999999999",
		"true", "True", "FALSE ", " TRUE", "TRUEX", "TRUE()", "#", "#N/A ", " #N/A", "#n/a", "#REF", "#REF!!", "#ERR!", "#N/A#N/A",
		"a=1", " =1", "1=1", "A1", "SUM(A1)", "a'", " '", "\"", "\"x\"", "1'", "-'", "é", "🙂", "\x00", "\n", "\t=", "(1)", "`",
		strings.Repeat("a", 199), strings.Repeat("a", 200), strings.Repeat("é", 100), strings.Repeat("9", 200), " " + strings.Repeat("'", 199), strings.Repeat("🙂", 50),
	} {
		l = append(l, written{s, textValueOf(s)})
	}
	// Texts that mean what is behind the mark.
	for _, s := range []string{
		"", "'", "''", "'x", "'=1", "'1", "=", "==", "=1", "=1+", "=A1", "=x", "= ", "='", "=\"x\"", "=" + strings.Repeat("-", 60) + "1",
		"0", "1", "-1", "1.5", "1.50", "10.0000", "-0", "0.0", "-0.0", "922337203685477.5807", "-922337203685477.5808",
		"TRUE", "FALSE", "#REF!", "#CYCLE!", "#DIV/0!", "#NUM!", "#VALUE!", "#NAME?", "#N/A",
		"'" + strings.Repeat("a", 199), "=" + strings.Repeat("1", 199), strings.Repeat("'", 200), strings.Repeat("=", 200),
	} {
		l = append(l, written{"'" + s, textValueOf(s)})
	}
	return l
}

func checkRead(t *testing.T, s string, want api.Value) {
	t.Helper()
	c, err := Read(s)
	if err != api.OK || tellCell(c) != tellCell(api.Cell{Value: want}) {
		t.Errorf("P8.2: Read(%.250q) is %.250s, %d, not %.250s", s, tellCell(c), err, tellCell(api.Cell{Value: want}))
	}
	if !May(c) {
		t.Errorf("P8.2: May is false of Read(%.250q)", s)
	}
}

func TestCellsOfValues(t *testing.T) {
	for _, x := range asShown() {
		checkRead(t, x.s, x.v)
		c := api.Cell{Value: x.v}
		if !May(c) {
			t.Errorf("P8.2: May is false of %s", tellCell(c))
		}
		if got := Cell(c); got != x.s {
			t.Errorf("P8.2: Cell(%s) is %q, not %q", tellCell(c), got, x.s)
		}
	}
}

// Some texts are not as Cell would write their values.
func TestReadOtherwiseWritten(t *testing.T) {
	for _, x := range []written{
		{"1.50", number(15000)}, {"10.0000", number(100000)}, {"-0", number(0)}, {"0.0", number(0)}, {"-0.0000", number(0)}, {"-1.10", number(-11000)},
		{"'a", textValueOf("a")}, {"' ", textValueOf(" ")}, {"'a=1", textValueOf("a=1")}, {"'true", textValueOf("true")}, {"'01", textValueOf("01")}, {"'\n", textValueOf("\n")},
		{"'" + strings.Repeat("a", 200), textValueOf(strings.Repeat("a", 200))}, {"'" + strings.Repeat("é", 100), textValueOf(strings.Repeat("é", 100))},
	} {
		checkRead(t, x.s, x.v)
		c, _ := Read(x.s)
		again, err := Read(Cell(c))
		if err != api.OK || tellCell(again) != tellCell(c) {
			t.Errorf("P8.2: Read of Cell of %s is %s, %d", tellCell(c), tellCell(again), err)
		}
	}
}

// checkRefused is of what can't be written into a cell.
func checkRefused(t *testing.T, s string, want api.Errno) {
	t.Helper()
	c, err := Read(s)
	if err != want || tellCell(c) != tellCell(api.Cell{}) || c.Expr.Refs != nil || c.Expr.Kids != nil {
		t.Errorf("P8.2, P0.2: Read(%.100q) is %.100s, %d, not zero, %d", s, tellCell(c), err, want)
	}
}

func TestReadRefuses(t *testing.T) {
	for _, n := range []int{201, 202, 256, 999, 1000, 1001, 1 << 20} {
		checkRefused(t, strings.Repeat("a", n), api.ErrSyntax)
		checkRefused(t, strings.Repeat("1", n), api.ErrSyntax)
		checkRefused(t, "'"+strings.Repeat("a", n), api.ErrSyntax)
		checkRefused(t, strings.Repeat(" ", n-1)+"1", api.ErrSyntax)
		checkRefused(t, strings.Repeat("'", n+1), api.ErrSyntax)
		checkRefused(t, strings.Repeat("=", n), api.ErrSyntax)
	}
	checkRefused(t, strings.Repeat("é", 101), api.ErrSyntax)
	checkRefused(t, "'"+strings.Repeat("é", 101), api.ErrSyntax)
	checkRefused(t, "a"+strings.Repeat("é", 100), api.ErrSyntax)
	for _, s := range []string{"\xff", "a\x80", "\xc3", "é\xa9", "\xed\xa0\x80", "1\xff", "\xff1", "TRUE\xff", "#N/A\xff", "\xf0\x9f\x99", "\xff'", "\xff="} {
		checkRefused(t, s, api.ErrSyntax)
		checkRefused(t, "'"+s, api.ErrSyntax)
		checkRefused(t, "="+s, api.ErrSyntax)
		checkRefused(t, `="`+s+`"`, api.ErrSyntax)
	}
}

func TestReadFormulas(t *testing.T) {
	for s, want := range map[string]api.Expr{
		"=1": num(1), "= 1 ": num(1), "=(1)": num(1), "=-3": neg(num(3)), "=TRUE": truth(true), "=#N/A": fault(7), `="x"`: text("x"), `="=1"`: text("=1"), `="'"`: text("'"), "=A1": ref(cellA1), "=A1:B2": area(cellA1, cellB2), "=F()": call("F"), "=1=2": bin(num(1), "=", num(2)), "=1.50": {Kind: api.XNum, Num: 15000},
		"=1" + strings.Repeat(" ", 999): num(1), "=" + strings.Repeat("(", 499) + "12" + strings.Repeat(")", 499): num(12), `="` + strings.Repeat("a", 200) + `"`: text(strings.Repeat("a", 200)),
		"=" + strings.Repeat("-", 49) + "1": nest(49, num(1), neg),
	} {
		c, err := Read(s)
		if err != api.OK || tellCell(c) != tellCell(api.Cell{Formula: true, Expr: want}) || !May(c) {
			t.Errorf("P8.2: Read(%.100q) is %.200s, %d", s, tellCell(c), err)
		}
		again, err := Read(Cell(c))
		if err != api.OK || tellCell(again) != tellCell(c) {
			t.Errorf("P8.2: Read of Cell of %.200s is %.200s, %d", tellCell(c), tellCell(again), err)
		}
	}
	for _, s := range []string{"=", "==", "==1", "= ", "=1+", "=+1", "=x", "=a1", "='x", "='", `="`, `="x`, "=1 2", "=(", "=()", "=)", "=A1:c0n0!B2", "=TRUE()", "=1\n", "=é", "=1" + strings.Repeat(" ", 1000), `="` + strings.Repeat("a", 201) + `"`} {
		checkRefused(t, s, api.ErrSyntax)
	}
	nodes, _ := wide(200)
	checkRefused(t, "=1+"+Formula(nodes), api.ErrDeep)
	for _, n := range []int{50, 51, 500, 999} {
		checkRefused(t, "="+strings.Repeat("-", n)+"1", api.ErrDeep)
		checkRefused(t, "="+strings.Repeat("-", n), api.ErrSyntax)
	}
	checkRefused(t, "="+strings.Repeat("-", 1000)+"1", api.ErrSyntax)
}

var numberForm = regexp.MustCompile(`^-?(0|[1-9][0-9]*)(\.[0-9]{1,4})?$`)

// modelRead is what Read is to answer of what is no formula.
func modelRead(s string) (api.Value, bool) {
	errors := []string{"#REF!", "#CYCLE!", "#DIV/0!", "#NUM!", "#VALUE!", "#NAME?", "#N/A"}
	switch {
	case s == "":
		return api.Value{}, true
	case s[0] == '\'':
		return textValueOf(s[1:]), len(s) <= 201 && utf8.ValidString(s)
	case s == "TRUE" || s == "FALSE":
		return truthValue(s == "TRUE"), true
	case slices.Contains(errors, s):
		return faultValue(slices.Index(errors, s) + 1), true
	case numberForm.MatchString(s) && len(s) < 15:
		n, _ := fixnum.Parse(s)
		return number(n), true
	}
	return textValueOf(s), len(s) <= 200 && utf8.ValidString(s)
}

// checkModel asks Read, Cell and May of one text, as a cell's and as a text within one.
func checkModel(t *testing.T, s string) {
	t.Helper()
	if !strings.HasPrefix(s, "=") {
		if want, ok := modelRead(s); ok {
			checkRead(t, s, want)
		} else {
			checkRefused(t, s, api.ErrSyntax)
		}
	} else if e, err := parse.Parse(s[1:]); err != api.OK {
		checkRefused(t, s, err)
	} else if c, _ := Read(s); tellCell(c) != tellCell(api.Cell{Formula: true, Expr: e}) {
		t.Errorf("P8.2: Read(%q) is %s", s, tellCell(c))
	}
	c := api.Cell{Value: textValueOf(s)}
	if len(s) > 200 || !utf8.ValidString(s) {
		checkNoCell(t, "a text that may not be", c)
		return
	}
	want := s
	if v, _ := modelRead(s); s == "" || s[0] == '\'' || s[0] == '=' || v.Kind != api.VText {
		want = "'" + s
	}
	if got := Cell(c); got != want || !May(c) {
		t.Errorf("P8.2: Cell of the text %q is %q, not %q; May %v", s, got, want, May(c))
	}
	checkRead(t, Cell(c), c.Value)
}

func TestAllShortTexts(t *testing.T) {
	signs := []string{"'", "=", "0", "1", ".", "-", "+", "A", "\"", "(", ")", " ", "é", "\xff"}
	rows := []string{""}
	for range 4 {
		var longer []string
		for _, row := range rows {
			checkModel(t, row)
			for _, sign := range signs {
				longer = append(longer, row+sign)
			}
		}
		rows = longer
	}
	for _, row := range rows {
		checkModel(t, row)
	}
}

func TestOneByteAway(t *testing.T) {
	for _, s := range []string{"TRUE", "FALSE", "#REF!", "#CYCLE!", "#DIV/0!", "#NUM!", "#VALUE!", "#NAME?", "#N/A", "-12.3456", "1000", "'a'b", "=A1+2", "hé", "0.0001", strings.Repeat("b", 200)} {
		for i := range len(s) + 1 {
			checkModel(t, s[:i])
			if i < len(s) {
				checkModel(t, s[:i]+s[i+1:])
			}
			for c := range 256 {
				if len(s) == 200 && i > 2 && i < 198 && c != '\'' {
					continue
				}
				checkModel(t, s[:i]+string([]byte{byte(c)})+s[i:])
				if i < len(s) {
					checkModel(t, s[:i]+string([]byte{byte(c)})+s[i+1:])
				}
			}
		}
	}
}

func TestNumbersAgain(t *testing.T) {
	for shift := range 63 {
		for _, d := range []api.Fix{-1, 0, 1, 9999, 10000} {
			for _, n := range []api.Fix{1<<shift + d, -1<<shift - d} {
				c := api.Cell{Value: number(n)}
				s := Cell(c)
				if s != fixnum.Print(n) {
					t.Errorf("P8.2: Cell of the number %d is %q", n, s)
				}
				checkRead(t, s, c.Value)
				checkRead(t, "'"+s, textValueOf(s))
			}
		}
	}
}

// values are of every kind that may be.
func values() []api.Value {
	return []api.Value{{}, number(0), number(-15000), textValueOf(""), textValueOf("x"), textValueOf("=1"), truthValue(false), truthValue(true), faultValue(1), faultValue(7)}
}

func TestMay(t *testing.T) {
	for _, v := range values() {
		checkMay(t, api.Cell{Value: v}, true)
		checkMay(t, api.Cell{Value: v, Expr: api.Expr{Refs: []api.Ref{}, Kids: []api.Expr{}}}, true)
		checkMay(t, api.Cell{Value: v, Formula: true}, false)
		for _, x := range things() {
			checkMay(t, api.Cell{Value: v, Expr: x.tree}, false)
			checkMay(t, api.Cell{Value: v, Expr: x.tree, Formula: true}, v == api.Value{})
		}
		for name, e := range exprFields() {
			c := api.Cell{Value: v, Expr: e}
			if May(c) || Cell(c) != "" {
				t.Errorf("P8.2: May is true of a value with %s in its Expr", name)
			}
		}
	}
}

func checkMay(t *testing.T, c api.Cell, want bool) {
	t.Helper()
	if May(c) != want {
		t.Errorf("P8.2: May is %v of %.200s", !want, tellCell(c))
	}
	if !want && Cell(c) != "" {
		t.Errorf("P8.2: Cell(%.200s) is %.200q", tellCell(c), Cell(c))
	}
}

// exprFields are trees that are zero but for one field.
func exprFields() map[string]api.Expr {
	return map[string]api.Expr{
		"a Kind": {Kind: 1}, "a Kind that is none": {Kind: -1}, "a Num": {Num: 1}, "a Text": {Text: "x"}, "a Bool": {Bool: true}, "an Err": {Err: 1}, "Refs": {Refs: []api.Ref{{}}}, "Kids": {Kids: []api.Expr{{}}},
	}
}

// valueFields are values that are zero but for one field: none of them may stand beside a formula.
func valueFields() map[string]api.Value {
	return map[string]api.Value{
		"a Kind": {Kind: 1}, "a Kind that is none": {Kind: -1}, "a Num": {Num: 1}, "a Text": {Text: "x"}, "a Bool": {Bool: true}, "an Err": {Err: 1},
	}
}

func TestMayBesideAFormula(t *testing.T) {
	for name, v := range valueFields() {
		for _, e := range []api.Expr{num(1), call("F"), ref(cellA1)} {
			checkNoCell(t, "a formula with "+name+" in its Value", api.Cell{Formula: true, Expr: e, Value: v})
		}
	}
}

func TestValuesThatMayNotBe(t *testing.T) {
	for what, v := range map[string]api.Value{
		"a kind below": {Kind: -1}, "a kind beyond": {Kind: 5}, "a great kind": {Kind: 1 << 40},
		"a blank with a number": {Num: 1}, "a blank with a text": {Text: "x"}, "a blank with a truth": {Bool: true}, "a blank with an error": {Err: 1},
		"a number with a text": {Kind: api.VNumber, Text: "x"}, "a text with a number": {Kind: api.VText, Num: 1}, "a truth with an error": {Kind: api.VBool, Err: 1}, "an error with a truth": {Kind: api.VError, Err: 1, Bool: true},
		"the error 0": faultValue(0), "the error 8": faultValue(8), "the error -1": faultValue(-1),
		"a text of 201 bytes": textValueOf(strings.Repeat("x", 201)), "a text of 101 letters é": textValueOf(strings.Repeat("é", 101)), "a text that is no UTF-8": textValueOf("\xff"), "a half letter": textValueOf("é\xc3"),
		"a text of 201 bytes with a mark": textValueOf("'" + strings.Repeat("x", 200)), "a text that is no UTF-8 with a mark": textValueOf("'\xff"), "a text that is no UTF-8 with a =": textValueOf("=\xff"),
	} {
		checkNoCell(t, what, api.Cell{Value: v})
		checkNoCell(t, what+", with a tree", api.Cell{Value: v, Expr: num(1)})
		checkNoCell(t, what+", with a formula", api.Cell{Formula: true, Value: v, Expr: num(1)})
	}
}

func TestEmptyLists(t *testing.T) {
	e := call("F", num(1), call("G"))
	x := call("F", num(1), api.Expr{Kind: api.XCall, Text: "G", Refs: []api.Ref{}, Kids: []api.Expr{}})
	x.Refs = make([]api.Ref, 0, 3)
	if Formula(e) != "F(1,G())" || Formula(x) != "F(1,G())" || Cell(api.Cell{Formula: true, Expr: x}) != "=F(1,G())" {
		t.Error("P0.4: Formula tells nil lists from empty ones")
	}
	c := api.Cell{Value: number(10000), Expr: api.Expr{Refs: make([]api.Ref, 0, 3), Kids: make([]api.Expr, 0, 3)}}
	if Cell(c) != "1" || !May(c) {
		t.Error("P0.4: Cell tells nil lists from empty ones")
	}
}

// roomy is e with spare room behind each of its lists, all of them full of marks.
func roomy(e api.Expr) api.Expr {
	refs := append(slices.Clone(e.Refs), api.Ref{Sheet: "mark"}, api.Ref{Row: 77})
	kids := append(slices.Clone(e.Kids), text("mark"), num(77))
	for i, kid := range e.Kids {
		kids[i] = roomy(kid)
	}
	e.Refs, e.Kids = refs[:len(e.Refs)], kids[:len(e.Kids)]
	return e
}

// whole tells e with the spare room of its lists.
func whole(e api.Expr) string {
	s := tell(api.Expr{Kind: e.Kind, Num: e.Num, Text: e.Text, Bool: e.Bool, Err: e.Err, Refs: e.Refs[:cap(e.Refs)]})
	for i, kid := range e.Kids[:cap(e.Kids)] {
		if i < len(e.Kids) {
			s += " (" + whole(kid) + ")"
		} else {
			s += " (" + tell(kid) + ")"
		}
	}
	return s
}

func TestArgumentsAreNotChanged(t *testing.T) {
	d := dice(5)
	for range 300 {
		e := d.tree(60, 50)
		a := roomy(e)
		before := whole(a)
		Formula(a)
		c := api.Cell{Formula: true, Expr: a}
		Cell(c)
		May(c)
		May(api.Cell{Expr: a})
		if whole(a) != before {
			t.Errorf("P0.3: %.100s is changed", tell(e))
		}
		if Formula(a) != Formula(e) {
			t.Errorf("P0.3: spare room is told: %q, not %q", Formula(a), Formula(e))
		}
	}
}

// overwritten is what f answers of a text whose bytes are changed behind the call.
func overwritten(s string, f func(string) func() string) (before, after string) {
	room := []byte(s)
	answer := f(unsafe.String(unsafe.SliceData(room), len(room)))
	before = strings.Clone(answer())
	for i := range room {
		room[i] = 'x'
	}
	return before, answer()
}

func TestAnswersAreNewMemory(t *testing.T) {
	for _, s := range []string{"hello", "'hello", "'=1", `=F("abc",c1n2!A1:B2)`, `="abc"`, "=ABC(1)", "1.5", "#N/A"} {
		before, after := overwritten(s, func(s string) func() string {
			c, _ := Read(s)
			return func() string { return tellCell(c) }
		})
		if before != after {
			t.Errorf("P0.3: what Read(%q) answered is a piece of its argument: %s", s, after)
		}
	}
	for _, s := range []string{"hello", "=1", "'x", "12", ""} {
		before, after := overwritten(s, func(s string) func() string {
			answer := Cell(api.Cell{Value: textValueOf(s)})
			return func() string { return answer }
		})
		if before != after {
			t.Errorf("P0.3: what Cell answered of the text %q is a piece of it: %s", s, after)
		}
		before, after = overwritten(s, func(s string) func() string {
			answer := Formula(text(s))
			return func() string { return answer }
		})
		if before != after {
			t.Errorf("P0.3: what Formula answered of the text %q is a piece of it: %s", s, after)
		}
	}
	a, _ := Read("=F(A1,B2:C3,1)")
	b, _ := Read("=F(A1,B2:C3,1)")
	want := tellCell(b)
	a.Expr.Kids[0].Refs[0].Row, a.Expr.Kids[1].Refs[1].Row = 77, 77
	a.Expr.Kids[2] = num(77)
	if c, _ := Read("=F(A1,B2:C3,1)"); tellCell(b) != want || tellCell(c) != want {
		t.Error("P0.3: two answers of Read share memory")
	}
}

func TestSameAnswerAgain(t *testing.T) {
	for _, x := range asShown() {
		a, err := Read(x.s)
		b, again := Read(x.s)
		if tellCell(a) != tellCell(b) || err != again || Cell(a) != Cell(b) {
			t.Errorf("P0.5: Read(%q) is another the second time", x.s)
		}
	}
	for _, x := range things() {
		if Formula(x.tree) != Formula(x.tree) {
			t.Errorf("P0.5: Formula(%s) is another the second time", tell(x.tree))
		}
	}
}
