package parse

import (
	"fmt"
	"slices"
	"strings"
	"testing"
	"unsafe"

	"counterpane/a1"
	"counterpane/api"
	"counterpane/fixnum"
	"counterpane/lex"
	"counterpane/value"
)

// tell writes a tree with all its fields, those of other kinds too.
func tell(e api.Expr) string {
	s := fmt.Sprint(e.Kind)
	if e.Num != 0 {
		s += fmt.Sprint(" num ", int64(e.Num))
	}
	if e.Text != "" {
		s += fmt.Sprintf(" %q", e.Text)
	}
	if e.Bool {
		s += " true"
	}
	if e.Err != 0 {
		s += fmt.Sprint(" err ", e.Err)
	}
	for _, r := range e.Refs {
		s += fmt.Sprintf(" %+v", r)
	}
	for _, kid := range e.Kids {
		s += " (" + tell(kid) + ")"
	}
	return s
}

// The trees that tests expect.

func num(n api.Fix) api.Expr    { return api.Expr{Kind: api.XNum, Num: n * 10000} }
func text(s string) api.Expr    { return api.Expr{Kind: api.XText, Text: s} }
func truth(b bool) api.Expr     { return api.Expr{Kind: api.XBool, Bool: b} }
func fault(err int) api.Expr    { return api.Expr{Kind: api.XErr, Err: err} }
func neg(kid api.Expr) api.Expr { return api.Expr{Kind: api.XNeg, Kids: []api.Expr{kid}} }

func bin(a api.Expr, operator string, b api.Expr) api.Expr {
	return api.Expr{Kind: api.XBin, Text: operator, Kids: []api.Expr{a, b}}
}

func call(name string, kids ...api.Expr) api.Expr {
	return api.Expr{Kind: api.XCall, Text: name, Kids: slices.Clone(kids)}
}

func ref(r api.Ref) api.Expr {
	return api.Expr{Kind: api.XRef, Refs: []api.Ref{r}}
}

func area(a, b api.Ref) api.Expr {
	return api.Expr{Kind: api.XRange, Refs: []api.Ref{a, b}}
}

// nest is e within n calls of wrap.
func nest(n int, e api.Expr, wrap func(api.Expr) api.Expr) api.Expr {
	for range n {
		e = wrap(e)
	}
	return e
}

var (
	cellA1 = api.Ref{}
	cellB2 = api.Ref{Row: 1, Col: 1}
	farC3  = api.Ref{Sheet: "c1n2", Row: 2, Col: 2, RowAbs: true}
)

var operators = []string{"=", "<>", "<", "<=", ">", ">=", "&", "+", "-", "*", "/"}

// rank is the document's order of operators, the weakest first.
func rank(operator string) int {
	return slices.IndexFunc([]string{" = <> < <= > >= ", " & ", " + - ", " * / "}, func(s string) bool {
		return strings.Contains(s, " "+operator+" ")
	})
}

func checkTree(t *testing.T, s string, want api.Expr) {
	t.Helper()
	got, err := Parse(s)
	if err != api.OK || tell(got) != tell(want) {
		t.Errorf("P7.1: Parse(%.80q) is %.200s, %d, not %.200s", s, tell(got), err, tell(want))
		return
	}
	if !May(got) || !Eq(got, want) || Count(got) != nodes(want) {
		t.Errorf("P7.1: of Parse(%.80q): May %v, Eq %v, Count %d", s, May(got), Eq(got, want), Count(got))
	}
}

// checkNone is of what is no formula, or would be one.
func checkNone(t *testing.T, s string, want api.Errno) {
	t.Helper()
	got, err := Parse(s)
	if err != want || tell(got) != tell(api.Expr{}) || got.Refs != nil || got.Kids != nil {
		t.Errorf("P7.1, P0.2: Parse(%.80q) is %.200s, %d, not zero, %d", s, tell(got), err, want)
	}
}

// thing is a first thing: as it is written, and its tree.
type thing struct {
	written string
	tree    api.Expr
}

func firstThings() []thing {
	l := []thing{
		{"0", num(0)},
		{"7", num(7)},
		{"0.0001", api.Expr{Kind: api.XNum, Num: 1}},
		{"1.50", api.Expr{Kind: api.XNum, Num: 15000}},
		{"922337203685477.5807", api.Expr{Kind: api.XNum, Num: 1<<63 - 1}},
		{`""`, text("")},
		{`"a""b"`, text(`a"b`)},
		{`"-"`, text("-")},
		{`"("`, text("(")},
		{`"TRUE"`, text("TRUE")},
		{`"A1:B2"`, text("A1:B2")},
		{`"é🙂` + "\x00" + `"`, text("é🙂\x00")},
		{`"` + strings.Repeat("x", 200) + `"`, text(strings.Repeat("x", 200))},
		{"TRUE", truth(true)},
		{"FALSE", truth(false)},
		{"A1", ref(cellA1)},
		{"$B$2", ref(api.Ref{Row: 1, Col: 1, RowAbs: true, ColAbs: true})},
		{"$B2", ref(api.Ref{Row: 1, Col: 1, ColAbs: true})},
		{"c1n2!C$3", ref(farC3)},
		{"TRUE1", ref(api.Ref{Col: ((20*26+18)*26+21)*26 + 5 - 1})},
		{"JMTMMTQOF2199023255552", ref(api.Ref{Row: api.MaxLine - 1, Col: api.MaxLine - 1})},
		{"A1:B2", area(cellA1, cellB2)},
		{"B2:A1", area(cellB2, cellA1)},
		{"A1:A1", area(cellA1, cellA1)},
		{"c1n2!C$3:B2", area(farC3, cellB2)},
		{"$A$1:B$2", area(api.Ref{RowAbs: true, ColAbs: true}, api.Ref{Row: 1, Col: 1, RowAbs: true})},
		{"F()", call("F")},
		{"SUM(1)", call("SUM", num(1))},
		{"SUM(A1:B2)", call("SUM", area(cellA1, cellB2))},
		{`IF(TRUE,"x",#N/A)`, call("IF", truth(true), text("x"), fault(7))},
		{"F(G(),H(1,I(2)))", call("F", call("G"), call("H", num(1), call("I", num(2))))},
		{"TRUEX(1)", call("TRUEX", num(1))},
		{"T(FALSE)", call("T", truth(false))},
		{"F(1+2,-3)", call("F", bin(num(1), "+", num(2)), neg(num(3)))},
		{"F((1),((2)))", call("F", num(1), num(2))},
		{"ABCDEFGHIJKLMNOPQRST(1)", call("ABCDEFGHIJKLMNOPQRST", num(1))},
	}
	for i, name := range []string{"#REF!", "#CYCLE!", "#DIV/0!", "#NUM!", "#VALUE!", "#NAME?", "#N/A"} {
		l = append(l, thing{name, fault(i + 1)})
	}
	return l
}

func TestFirstThings(t *testing.T) {
	for _, x := range firstThings() {
		checkTree(t, x.written, x.tree)
		checkTree(t, "  "+x.written+" ", x.tree)
		checkTree(t, "("+x.written+")", x.tree)
		checkTree(t, "( ( "+x.written+" ) ) ", x.tree)
		checkTree(t, "-"+x.written, neg(x.tree))
		checkTree(t, "--"+x.written, neg(neg(x.tree)))
		checkTree(t, "-(-("+x.written+"))", neg(neg(x.tree)))
		checkTree(t, "F("+x.written+")", call("F", x.tree))
		checkTree(t, "F(0,"+x.written+",2)", call("F", num(0), x.tree, num(2)))
		for _, o := range operators {
			checkTree(t, x.written+o+"1", bin(x.tree, o, num(1)))
			checkTree(t, "1 "+o+" "+x.written, bin(num(1), o, x.tree))
			checkTree(t, "-"+x.written+o+"-"+x.written, bin(neg(x.tree), o, neg(x.tree)))
			checkTree(t, "-("+x.written+o+"--1)", neg(bin(x.tree, o, neg(neg(num(1))))))
		}
	}
}

func TestBlanksBetweenWords(t *testing.T) {
	want := bin(call("F", area(farC3, cellB2), neg(truth(true))), "<=", bin(text(" "), "&", fault(3)))
	checkTree(t, `F(c1n2!C$3:B2,-TRUE)<=" "&#DIV/0!`, want)
	checkTree(t, `  F(  c1n2!C$3  :  B2  ,  -  TRUE  )  <=  (  " "  &  #DIV/0!  )  `, want)
	checkTree(t, "A1 :B2", area(cellA1, cellB2))
	checkTree(t, "A1: B2", area(cellA1, cellB2))
	checkTree(t, "F( )", call("F"))
}

func TestBracketsLeaveNoMark(t *testing.T) {
	for _, n := range []int{1, 2, 49, 50, 51, 200, 201, 499} {
		checkTree(t, strings.Repeat("(", n)+"1"+strings.Repeat(")", n), num(1))
	}
	n := 300
	checkTree(t, strings.Repeat("(", n)+"A1:B2"+strings.Repeat(")", n)+"*2", bin(area(cellA1, cellB2), "*", num(2)))
	checkTree(t, "((1)+((2)))*(((3)))", bin(bin(num(1), "+", num(2)), "*", num(3)))
}

// fold is operands with operators between them: the strongest operator is folded first, the left one of the same.
func fold(operands []api.Expr, between []string) api.Expr {
	operands, between = slices.Clone(operands), slices.Clone(between)
	for len(between) > 0 {
		best := 0
		for i, o := range between {
			if rank(o) > rank(between[best]) {
				best = i
			}
		}
		operands[best] = bin(operands[best], between[best], operands[best+1])
		operands = slices.Delete(operands, best+1, best+2)
		between = slices.Delete(between, best, best+1)
	}
	return operands[0]
}

func TestOperatorsBesideOneAnother(t *testing.T) {
	l := []api.Expr{num(1), num(2), num(3), num(4)}
	for _, a := range operators {
		for _, b := range operators {
			two := []string{a, b}
			checkTree(t, "1"+a+"2"+b+"3", fold(l[:3], two))
			checkTree(t, "(1"+a+"2)"+b+"3", bin(bin(l[0], a, l[1]), b, l[2]))
			checkTree(t, "1"+a+"(2"+b+"3)", bin(l[0], a, bin(l[1], b, l[2])))
			checkTree(t, "-1"+a+"-2"+b+"-3", fold([]api.Expr{neg(l[0]), neg(l[1]), neg(l[2])}, two))
			checkTree(t, "-(1"+a+"2)"+b+"3", bin(neg(bin(l[0], a, l[1])), b, l[2]))
			checkTree(t, "1"+a+"-(2"+b+"3)", bin(l[0], a, neg(bin(l[1], b, l[2]))))
			for _, c := range operators {
				three := []string{a, b, c}
				checkTree(t, "1"+a+"2"+b+"3"+c+"4", fold(l, three))
				checkTree(t, "1"+a+"(2"+b+"3)"+c+"4", fold([]api.Expr{l[0], bin(l[1], b, l[2]), l[3]}, []string{a, c}))
				checkTree(t, "1"+a+"2"+b+"--3"+c+"4", fold([]api.Expr{l[0], l[1], neg(neg(l[2])), l[3]}, three))
			}
		}
	}
}

func TestStrength(t *testing.T) {
	checkTree(t, "1+2*3-4", bin(bin(num(1), "+", bin(num(2), "*", num(3))), "-", num(4)))
	checkTree(t, "8-4-2", bin(bin(num(8), "-", num(4)), "-", num(2)))
	checkTree(t, "8/4/2", bin(bin(num(8), "/", num(4)), "/", num(2)))
	checkTree(t, "1&2=3&4+5", bin(bin(num(1), "&", num(2)), "=", bin(num(3), "&", bin(num(4), "+", num(5)))))
	checkTree(t, "1<2>3", bin(bin(num(1), "<", num(2)), ">", num(3)))
	checkTree(t, "1<>2", bin(num(1), "<>", num(2)))
	checkTree(t, "1<-2", bin(num(1), "<", neg(num(2))))
	checkTree(t, "1---2", bin(num(1), "-", neg(neg(num(2)))))
	checkTree(t, "-1*2", bin(neg(num(1)), "*", num(2)))
	checkTree(t, "-A1:B2&-F()", bin(neg(area(cellA1, cellB2)), "&", neg(call("F"))))
	checkTree(t, "F(1=2,3)*4", bin(call("F", bin(num(1), "=", num(2)), num(3)), "*", num(4)))
}

func list(n int, s string) string {
	return strings.TrimSuffix(strings.Repeat(s+",", n), ",")
}

func TestArguments(t *testing.T) {
	for n := range 31 {
		checkTree(t, "F("+list(n, "1")+")", call("F", slices.Repeat([]api.Expr{num(1)}, n)...))
	}
	for _, n := range []int{31, 32, 100, 201, 400} {
		checkNone(t, "F("+list(n, "1")+")", api.ErrSyntax)
		checkNone(t, "1+G(F("+list(n, "1")+"))", api.ErrSyntax)
	}
	for _, s := range []string{list(30, "1") + ",", list(29, "1") + ",,1", "," + list(29, "1"), list(30, "1") + ";1", list(30, "1") + " 1"} {
		checkNone(t, "F("+s+")", api.ErrSyntax)
	}
	checkTree(t, "F("+list(30, "F()")+")", call("F", slices.Repeat([]api.Expr{call("F")}, 30)...))
}

func TestNames(t *testing.T) {
	for n := 1; n <= 20; n++ {
		for _, c := range []string{"A", "M", "Z"} {
			name := strings.Repeat(c, n)
			checkTree(t, name+"(1)", call(name, num(1)))
		}
	}
	for _, n := range []int{21, 22, 100, 990} {
		checkNone(t, strings.Repeat("A", n)+"()", api.ErrSyntax)
		checkNone(t, strings.Repeat("Z", n)+"(1)", api.ErrSyntax)
	}
	for _, name := range []string{"TRUE", "FALSE"} {
		for _, s := range []string{"()", "(1)", "(1,2)", " ()", "(", "()+1"} {
			checkNone(t, name+s, api.ErrSyntax)
		}
	}
	for _, name := range []string{"TRU", "TRUEE", "FALSEE", "ATRUE", "TRUEFALSE"} {
		checkTree(t, name+"()", call(name))
		checkNone(t, name, api.ErrSyntax)
	}
}

func TestNoFormula(t *testing.T) {
	for _, s := range []string{
		"", " ", "    ", strings.Repeat(" ", 1000), strings.Repeat(" ", 1001),
		"1 2", "1 A1", "A1 B2", `"a" "b"`, `"a"1`, "TRUE FALSE", "1 F()", "F() 1", "F()F()", "(1)(2)", "1(2)", "(1)2", "A1(1)", `"F"(1)`, "#N/A(1)", "#N/A1", "#N/A #N/A",
		"1+", "1*", "1=", "1&", "1<>", "-", "--", "1-", "1+-", "F(-)", "(-)", "(1+)", "F(1+)",
		"+1", "*1", "/1", "&1", "=1", "<1", "<>1", ">=1", "(+1)", "F(*1)", "-+1", "1++1", "1+*1", "1*/1", "1==1", "1=<1", "1> =1", "1< >1",
		"(", ")", "()", "(())", "(1", "1)", "((1)", "(1))", ")1(", "(1+2", "1+2)", "1+(2", "F(", "F(1", "F(1,2", "F(1))", "F((1)", "F)", "(F(1)", "-(1", "-1)",
		",", "1,", ",1", "1,2", "(1,2)", "(,)", "F(,)", "F(1,)", "F(,1)", "F(1,,2)", "F(1),2", "F((1,2))", "-,1", "1+,2",
		":", "A1:", ":A1", "A1:1", "1:A1", "1:1", `A1:"B2"`, "A1:F()", "F():A1", "A1:TRUE", "A1:#N/A", "A1:-B2", "A1:(B2)", "(A1):B2", "(A1:B2):C3", "A1:B2:C3", "A1::B2", "A1:)", "(A1:)", "F(A1:)", "F(A1:,B2)", "A1:+B2",
		"A1:c0n0!B2", "c0n0!A1:c0n0!B2", "c0n0!A1:c0n1!B2", "A1:c0n0!", "c0n0!:B2", "c0n0!A1:c15n999999!$B$2",
		"SUM", "F", "F+1", "F 1", "F (1)", "1+F", "(F)", "A1:F", "X1Y", "f()", "Sum(1)", "FÉ(1)", "F1(1)", "_(1)", "true", "True",
		"#X", "#", "1.5.2", "1.", ".5", "1e5", "01", "a1", "A0", `"`, `"a`, `"""`, "\"\xff\"", `"` + strings.Repeat("x", 201) + `"`, "1;2", "1%", "1^2", "{1}", "1\t", "\n1", "A1\x00", "@A1", "'a'", "1!", "!A1", "c16n0!A1", "922337203685477.5808",
		"=1", "==1", `1 "+" 2`, `F"("1)`, `"(" 1 ")"`, `F(1 "," 2)`, `A1 ":" B2`, `"-" 1`,
	} {
		checkNone(t, s, api.ErrSyntax)
	}
}

// deep is a way to be deep: n of ahead, a first thing, n of behind are so many deep more than the first thing.
type deep struct {
	ahead, first, behind string
	wrap                 func(api.Expr) api.Expr
	leaf                 api.Expr
}

func deepWays() []deep {
	l := []deep{
		{"-", "1", "", neg, num(1)},
		{"-", "A1:B2", "", neg, area(cellA1, cellB2)},
		{"-(", "TRUE", ")", neg, truth(true)},
		{"F(", "1", ")", func(e api.Expr) api.Expr { return call("F", e) }, num(1)},
		{"F(", "F()", ")", func(e api.Expr) api.Expr { return call("F", e) }, call("F")},
		{"F(1,", "#N/A", ",2)", func(e api.Expr) api.Expr { return call("F", num(1), e, num(2)) }, fault(7)},
	}
	for _, o := range operators {
		left := func(e api.Expr) api.Expr { return bin(e, o, num(1)) }
		l = append(l, deep{"", "1", o + "1", left, num(1)})
		l = append(l, deep{"(", `"x"`, ")" + o + "1", left, text("x")})
		l = append(l, deep{"1" + o + "(", "A1", ")", func(e api.Expr) api.Expr { return bin(num(1), o, e) }, ref(cellA1)})
		l = append(l, deep{"-(1" + o, "F(1)", ")", func(e api.Expr) api.Expr { return neg(bin(num(1), o, e)) }, call("F", num(1))})
	}
	return l
}

func depth(e api.Expr) int {
	n := 0
	for _, kid := range e.Kids {
		n = max(n, depth(kid))
	}
	return n + 1
}

func nodes(e api.Expr) int {
	n := 1
	for _, kid := range e.Kids {
		n += nodes(kid)
	}
	return n
}

func TestDepth(t *testing.T) {
	for _, x := range deepWays() {
		for n := range 60 {
			s := strings.Repeat(x.ahead, n) + x.first + strings.Repeat(x.behind, n)
			tree := nest(n, x.leaf, x.wrap)
			if depth(tree) <= 50 {
				checkTree(t, s, tree)
				checkTree(t, "("+s+")", tree)
				continue
			}
			if May(tree) {
				t.Errorf("P7.1: May is true of a tree %d deep: %.60s", depth(tree), s)
			}
			if len(s) > 990 {
				break
			}
			checkNone(t, s, api.ErrDeep)
			checkNone(t, "("+s+")", api.ErrDeep)
			for _, wrong := range []string{s + "+", s + ")", "(" + s, s + " 1", s + ",1", "*" + s, s + "+A1:", s + "#", s + "+F"} {
				checkNone(t, wrong, api.ErrSyntax)
			}
		}
	}
}

func TestDepthOfOneKidAmongMany(t *testing.T) {
	for i := range 30 {
		for _, n := range []int{48, 49} {
			kids := slices.Repeat([]string{"1"}, 30)
			kids[i] = strings.Repeat("-", n) + "1"
			trees := slices.Repeat([]api.Expr{num(1)}, 30)
			trees[i] = nest(n, num(1), neg)
			s, tree := "F("+strings.Join(kids, ",")+")", call("F", trees...)
			if n == 48 {
				checkTree(t, s, tree)
				continue
			}
			checkNone(t, s, api.ErrDeep)
			if May(tree) {
				t.Errorf("P7.1: May is true of a tree 51 deep at kid %d", i)
			}
		}
	}
}

// wide is a formula of so many nodes, 33 or more, and how it is written.
func wide(nodes int) (string, api.Expr) {
	var written []string
	var trees []api.Expr
	for left := nodes - 1; left > 0; {
		n := min(left, 31)
		written = append(written, "F("+list(n-1, "1")+")")
		trees = append(trees, call("F", slices.Repeat([]api.Expr{num(1)}, n-1)...))
		left -= n
	}
	return "G(" + strings.Join(written, ",") + ")", call("G", trees...)
}

// balanced is one of so many nodes of the kind XBin, each of them in brackets, and numbers.
func balanced(leaves int) (string, api.Expr) {
	if leaves == 1 {
		return "1", num(1)
	}
	s, a := balanced(leaves / 2)
	r, b := balanced(leaves - leaves/2)
	return "(" + s + "/" + r + ")", bin(a, "/", b)
}

func TestNodes(t *testing.T) {
	check := func(n int, s string, tree api.Expr) {
		t.Helper()
		if got := Count(tree); got != min(n, 201) {
			t.Errorf("P7.1: Count of %d nodes is %d", n, got)
		}
		if May(tree) != (n <= 200) {
			t.Errorf("P7.1: May of %d nodes is %v", n, May(tree))
		}
		if n <= 200 {
			checkTree(t, s, tree)
			return
		}
		if len(s) > 990 {
			return
		}
		checkNone(t, s, api.ErrDeep)
		for _, wrong := range []string{s + "*", s + ")", "(" + s, s + " 1", "F(" + s + ",)", s + ":A1"} {
			checkNone(t, wrong, api.ErrSyntax)
		}
	}
	for n := 40; n < 300; n++ {
		s, tree := wide(n)
		check(n, s, tree)
	}
	for leaves := 20; leaves < 250; leaves++ {
		s, tree := balanced(leaves)
		check(2*leaves-1, s, tree)
		check(2*leaves, "-"+s, neg(tree))
	}
}

func TestTooLong(t *testing.T) {
	checkTree(t, strings.Repeat(" ", 999)+"1", num(1))
	checkNone(t, strings.Repeat(" ", 1000)+"1", api.ErrSyntax)
	checkNone(t, "1"+strings.Repeat("+1", 499), api.ErrDeep)
	checkNone(t, "1"+strings.Repeat("+1", 500), api.ErrSyntax)
	checkNone(t, strings.Repeat("-", 999)+"1", api.ErrDeep)
	checkNone(t, strings.Repeat("-", 1000)+"1", api.ErrSyntax)
	checkNone(t, strings.Repeat("-", 1000), api.ErrSyntax)
	for _, s := range []string{"(", ")", "F(", "1,", "A1:", "-(", "1+(", "F(1,", "((1)", "\x00", "\""} {
		checkNone(t, strings.Repeat(s, 1000/len(s)), api.ErrSyntax)
		checkNone(t, strings.Repeat(s, 100000), api.ErrSyntax)
	}
}

// model reads words another way than the program: it cuts them at the operator that binds the weakest, the last such one.
func model(l []lex.Word) (api.Expr, bool) {
	if cut := weakestOperator(l); cut > 0 {
		a, ok := model(l[:cut])
		b, too := model(l[cut+1:])
		return bin(a, l[cut].Text, b), ok && too
	}
	switch {
	case len(l) == 0:
		return api.Expr{}, false
	case is(l[0], "-"):
		kid, ok := model(l[1:])
		return neg(kid), ok
	case is(l[0], "("):
		if !is(l[len(l)-1], ")") || closing(l) != len(l)-1 {
			return api.Expr{}, false
		}
		return model(l[1 : len(l)-1])
	case len(l) == 1:
		return modelOne(l[0])
	case l[0].Kind == 4:
		return modelCall(l)
	}
	return modelRange(l)
}

func is(w lex.Word, sign string) bool {
	return w.Kind == 6 && w.Text == sign
}

// weakestOperator is its place among words; -1: there is none outside of brackets.
func weakestOperator(l []lex.Word) int {
	open, best := 0, -1
	for i, w := range l {
		switch {
		case is(w, "("):
			open++
		case is(w, ")"):
			open--
		case open == 0 && w.Kind == 6 && rank(w.Text) >= 0 && endsOperand(l[:i]):
			if best < 0 || rank(w.Text) <= rank(l[best].Text) {
				best = i
			}
		}
	}
	return best
}

func endsOperand(l []lex.Word) bool {
	return len(l) > 0 && (l[len(l)-1].Kind != 6 || is(l[len(l)-1], ")"))
}

// closing is the place of the ) that closes the first ( of l; -1: none.
func closing(l []lex.Word) int {
	open := 0
	for i, w := range l {
		if is(w, "(") {
			open++
		} else if is(w, ")") {
			if open--; open == 0 {
				return i
			}
		}
	}
	return -1
}

func modelOne(w lex.Word) (api.Expr, bool) {
	switch w.Kind {
	case 1:
		n, ok := fixnum.Parse(w.Text)
		return api.Expr{Kind: api.XNum, Num: n}, ok
	case 2:
		return text(w.Text), true
	case 3:
		r, ok := a1.Parse(w.Text)
		return ref(r), ok
	case 4:
		return truth(w.Text == "TRUE"), w.Text == "TRUE" || w.Text == "FALSE"
	case 5:
		for err := 1; err <= 7; err++ {
			if value.Name(err) == w.Text {
				return fault(err), true
			}
		}
	}
	return api.Expr{}, false
}

func modelCall(l []lex.Word) (api.Expr, bool) {
	if l[0].Text == "TRUE" || l[0].Text == "FALSE" || len(l[0].Text) > 20 || !is(l[1], "(") || closing(l) != len(l)-1 {
		return api.Expr{}, false
	}
	e := call(l[0].Text)
	inner := l[2 : len(l)-1]
	if len(inner) == 0 {
		return e, true
	}
	open, from := 0, 0
	for i := range len(inner) + 1 {
		if i < len(inner) && is(inner[i], "(") {
			open++
		} else if i < len(inner) && is(inner[i], ")") {
			open--
		}
		if i < len(inner) && (open > 0 || !is(inner[i], ",")) {
			continue
		}
		kid, ok := model(inner[from:i])
		if !ok {
			return api.Expr{}, false
		}
		e.Kids = append(e.Kids, kid)
		from = i + 1
	}
	return e, len(e.Kids) <= 30
}

func modelRange(l []lex.Word) (api.Expr, bool) {
	if len(l) != 3 || l[0].Kind != 3 || !is(l[1], ":") || l[2].Kind != 3 {
		return api.Expr{}, false
	}
	a, ok := a1.Parse(l[0].Text)
	b, too := a1.Parse(l[2].Text)
	return area(a, b), ok && too && b.Sheet == ""
}

// modelParse is what Parse is to answer.
func modelParse(s string) (api.Expr, api.Errno) {
	words, _, ok := lex.Scan(s)
	if !ok {
		return api.Expr{}, api.ErrSyntax
	}
	e, ok := model(words[:len(words)-1])
	if !ok {
		return api.Expr{}, api.ErrSyntax
	}
	if depth(e) > 50 || nodes(e) > 200 {
		return api.Expr{}, api.ErrDeep
	}
	return e, api.OK
}

func checkModel(t *testing.T, s string) {
	t.Helper()
	want, err := modelParse(s)
	if err != api.OK {
		checkNone(t, s, err)
		return
	}
	checkTree(t, s, want)
}

func TestAllShortRowsOfWords(t *testing.T) {
	words := []string{"1", "A1", "c0n0!B2", "TRUE", "F(", "(", ")", ",", ":", "-", "+", "*", "="}
	rows := []string{""}
	for range 5 {
		var longer []string
		for _, row := range rows {
			for _, w := range words {
				longer = append(longer, strings.TrimPrefix(row+" "+w, " "))
			}
		}
		for _, row := range longer {
			checkModel(t, row)
		}
		rows = longer
	}
}

func examples() []string {
	return []string{
		`SUM(c1n2!A1:$B2,"x",TRUE,#REF!)`, "-(1+2)*3-4/F()", "IF(A1<>2,--B2,(3))", `"a""b"&"("&A1`, "1<=2=3>=-4", "((1))+G(H(1),2)", "FALSE=TRUE", "1&2+3*4",
	}
}

func TestOneWordAway(t *testing.T) {
	others := []string{"1", `"x"`, "A1", "c0n0!A1", "TRUE", "F(", "#N/A", "(", ")", ",", ":", "-", "+", "*", "&", "<>", ""}
	for _, s := range examples() {
		scanned, _, _ := lex.Scan(s)
		for i := range len(scanned) - 1 {
			at, end := scanned[i].At, scanned[i+1].At
			for _, o := range others {
				checkModel(t, s[:at]+" "+o+" "+s[end:])
				checkModel(t, s[:at]+" "+o+" "+s[at:])
			}
			for j := range i {
				from, to := scanned[j].At, scanned[j+1].At
				checkModel(t, s[:from]+s[at:end]+s[to:at]+s[from:to]+s[end:])
			}
		}
	}
}

func TestOneByteAway(t *testing.T) {
	for _, s := range examples() {
		for i := range len(s) + 1 {
			checkModel(t, s[:i])
			for c := range 256 {
				checkModel(t, s[:i]+string([]byte{byte(c)})+s[i:])
				if i < len(s) {
					checkModel(t, s[:i]+string([]byte{byte(c)})+s[i+1:])
				}
			}
			if i < len(s) {
				checkModel(t, s[:i]+s[i+1:])
			}
		}
	}
}

// A small generator of its own, so that each run asks the same.
type dice uint64

func (d *dice) throw(n int) int {
	*d = *d*6364136223846793005 + 1442695040888963407
	return int(uint64(*d) >> 33 % uint64(n))
}

func TestLongRowsOfWords(t *testing.T) {
	d := dice(7)
	for range 2500 {
		var s strings.Builder
		open := []byte{}
		for n := d.throw(120); ; n-- {
			for d.throw(3) == 0 {
				s.WriteString("-")
			}
			for d.throw(4) == 0 {
				opener := []string{"(", "F(", "GH("}[d.throw(3)]
				s.WriteString(opener)
				open = append(open, opener[0])
			}
			s.WriteString([]string{"1", "A1", "B2:C3", `"x"`, "F()", "TRUE", "#N/A", "c0n0!A1:B2"}[d.throw(8)])
			for len(open) > 0 && d.throw(3) == 0 {
				s.WriteString(")")
				open = open[:len(open)-1]
			}
			if n <= 0 {
				break
			}
			if len(open) > 0 && open[len(open)-1] != '(' && d.throw(2) == 0 {
				s.WriteString(",")
				continue
			}
			s.WriteString(operators[d.throw(len(operators))])
		}
		s.WriteString(strings.Repeat(")", len(open)))
		checkModel(t, s.String())
	}
}

// good are trees of every kind that may be.
func good() []api.Expr {
	return []api.Expr{
		num(0), {Kind: api.XNum, Num: 1<<63 - 1}, text(""), text("x"), text(strings.Repeat("x", 200)), text(strings.Repeat("é", 100)), text("\"\x00"), truth(false), truth(true),
		fault(1), fault(2), fault(3), fault(4), fault(5), fault(6), fault(7),
		ref(cellA1), ref(farC3), ref(api.Ref{Row: api.MaxLine - 1, Col: api.MaxLine - 1}), ref(api.Ref{Sheet: "c15n999999"}), ref(api.Ref{RowAbs: true, ColAbs: true}),
		area(cellA1, cellB2), area(farC3, cellB2), area(cellB2, cellA1), area(api.Ref{Row: api.MaxLine - 1}, api.Ref{Col: api.MaxLine - 1, RowAbs: true}),
		neg(num(1)), neg(neg(num(1))), bin(num(1), "+", text("x")), call("F"), call("F", num(1), call("G")), call("ABCDEFGHIJKLMNOPQRST", slices.Repeat([]api.Expr{num(1)}, 30)...),
	}
}

// fields lists what may be put into a field, by the field's name.
func fields() map[string]func(*api.Expr) {
	return map[string]func(*api.Expr){
		"Num":       func(e *api.Expr) { e.Num = 10000 },
		"Num below": func(e *api.Expr) { e.Num = -1 },
		"Text":      func(e *api.Expr) { e.Text = "F" },
		"Text sign": func(e *api.Expr) { e.Text = "+" },
		"Bool":      func(e *api.Expr) { e.Bool = true },
		"Err":       func(e *api.Expr) { e.Err = 1 },
		"Refs":      func(e *api.Expr) { e.Refs = []api.Ref{{}} },
		"Refs two":  func(e *api.Expr) { e.Refs = []api.Ref{{}, {}} },
		"Kids":      func(e *api.Expr) { e.Kids = []api.Expr{num(1)} },
		"Kids two":  func(e *api.Expr) { e.Kids = []api.Expr{num(1), num(1)} },
	}
}

// own are the names of the fields that a kind has.
func own(kind int) string {
	return [...]string{1: "Num", "Text", "Bool", "Err", "Refs", "Refs", "Kids", "Text Kids", "Text Kids"}[kind]
}

// within is e at many places of greater trees, and alone.
func within(e api.Expr) []api.Expr {
	return []api.Expr{
		e, neg(e), bin(e, "*", num(1)), bin(num(1), "<=", e), call("F", e), call("F", num(1), e), call("F", e, num(1)),
		nest(40, e, neg), nest(40, e, func(e api.Expr) api.Expr { return bin(num(1), "&", e) }), nest(20, e, func(e api.Expr) api.Expr { return call("F", text("x"), e, ref(cellA1)) }),
	}
}

func checkMay(t *testing.T, what string, e api.Expr, want bool) {
	t.Helper()
	for i, x := range within(e) {
		if May(x) != want {
			t.Errorf("P7.1: May is %v of %.200s (%s, place %d)", !want, tell(x), what, i)
		}
	}
}

func TestMay(t *testing.T) {
	for _, e := range good() {
		checkMay(t, "good", e, true)
		e.Refs, e.Kids = append([]api.Ref{}, e.Refs...), append([]api.Expr{}, e.Kids...)
		checkMay(t, "P0.4: good, with empty lists", e, true)
	}
	for _, o := range operators {
		checkMay(t, "operator", bin(num(1), o, num(2)), true)
	}
}

func TestMayFieldsOfOtherKinds(t *testing.T) {
	for _, e := range good() {
		for name, put := range fields() {
			if strings.Contains(own(e.Kind), name[:3]) {
				continue
			}
			x := e
			put(&x)
			checkMay(t, "field "+name, x, false)
		}
	}
}

func TestMayKinds(t *testing.T) {
	for _, kind := range []int{0, 10, 11, 100, -1, -8, 1 << 40, -1 << 63, 1<<63 - 1} {
		checkMay(t, "kind", api.Expr{Kind: kind}, false)
		for _, e := range good() {
			e.Kind = kind
			checkMay(t, "kind", e, false)
		}
	}
}

func TestMayNumbersTextsErrors(t *testing.T) {
	for _, n := range []api.Fix{-1, -10000, -1 << 63} {
		checkMay(t, "number", api.Expr{Kind: api.XNum, Num: n}, false)
	}
	for _, err := range []int{0, -1, 8, 9, 256, 1 << 40, -1 << 63} {
		checkMay(t, "error", fault(err), false)
	}
	for _, s := range []string{strings.Repeat("x", 201), strings.Repeat("é", 101), strings.Repeat("x", 100000), "\xff", "a\x80", "\xed\xa0\x80", "\xc3", "é\xa9"} {
		checkMay(t, "text", text(s), false)
	}
}

func TestMayReferences(t *testing.T) {
	for _, r := range []api.Ref{
		{Row: -1}, {Col: -1}, {Row: -1, Col: -1}, {Row: api.MaxLine}, {Col: api.MaxLine}, {Row: -1 << 63}, {Col: 1<<63 - 1},
		{Sheet: "x"}, {Sheet: "c16n0"}, {Sheet: "c0n1000000"}, {Sheet: "c00n0"}, {Sheet: " "}, {Sheet: "c0n0!"}, {Sheet: "C0N0"},
	} {
		checkMay(t, "reference", ref(r), false)
		checkMay(t, "range", area(r, cellB2), false)
		checkMay(t, "range", area(cellA1, r), false)
	}
	for _, r := range []api.Ref{{Sheet: "c0n0"}, farC3} {
		checkMay(t, "range's second", area(cellA1, r), false)
		checkMay(t, "range's second", area(r, r), false)
	}
	for n := range 5 {
		l := make([]api.Ref, n)
		checkMay(t, "count of Refs", api.Expr{Kind: api.XRef, Refs: l}, n == 1)
		checkMay(t, "count of Refs", api.Expr{Kind: api.XRange, Refs: l}, n == 2)
	}
	checkMay(t, "many Refs", api.Expr{Kind: api.XRange, Refs: make([]api.Ref, 100000)}, false)
}

func TestMayKids(t *testing.T) {
	for n := range 40 {
		kids := slices.Repeat([]api.Expr{num(1)}, n)
		if got := May(api.Expr{Kind: api.XNeg, Kids: kids}); got != (n == 1) {
			t.Errorf("P7.1: May is %v of an XNeg with %d kids", got, n)
		}
		for _, o := range operators {
			if got := May(api.Expr{Kind: api.XBin, Text: o, Kids: kids}); got != (n == 2) {
				t.Errorf("P7.1: May is %v of an XBin with %d kids", got, n)
			}
		}
		if got := May(call("F", kids...)); got != (n <= 30) {
			t.Errorf("P7.1: May is %v of an XCall with %d kids", got, n)
		}
	}
	for i := range 30 {
		kids := slices.Repeat([]api.Expr{num(1)}, 30)
		kids[i] = fault(8)
		checkMay(t, "one kid of 30", call("F", kids...), false)
	}
}

func TestMayOperatorsAndNames(t *testing.T) {
	for _, s := range []string{"", " ", "^", "(", ")", ",", ":", "==", "=<", "><", "!", "+ ", " +", "++", "--", "<=>", "F", "-1", "%", "\x00"} {
		checkMay(t, "operator", bin(num(1), s, num(2)), false)
	}
	for _, s := range []string{"", "TRUE", "FALSE", "f", "Sum", "SUm", "F1", "F ", " F", "F(", "É", "Ａ", "F.G", "_", "A1", "$A", "@", "[", "A\x00", "\xff", strings.Repeat("A", 21), strings.Repeat("A", 100000)} {
		checkMay(t, "name", call(s), false)
		checkMay(t, "name", call(s, num(1)), false)
	}
	for _, s := range []string{"A", "Z", "AZ", "TRUEE", "TRU", "FALS", "FALSETRUE", strings.Repeat("A", 20), strings.Repeat("Z", 20)} {
		checkMay(t, "name", call(s), true)
	}
	for c := range 256 {
		s := "A" + string([]byte{byte(c)})
		checkMay(t, "name", call(s), 'A' <= c && c <= 'Z')
	}
}

// pairs are trees that differ in one field alone.
func pairs() [][2]api.Expr {
	call1 := call("F", num(1), num(2))
	return [][2]api.Expr{
		{{Kind: 1}, {Kind: 2}}, {{Kind: 0}, {Kind: 1}}, {neg(num(1)), {Kind: api.XCall, Kids: []api.Expr{num(1)}}}, {ref(cellA1), {Kind: api.XRange, Refs: []api.Ref{{}}}},
		{{Num: 1}, {Num: 2}}, {num(0), num(1)}, {{Num: 1}, {Num: -1}}, {{Num: 1 << 40}, {}},
		{text(""), text("x")}, {text("x"), text("X")}, {text("x"), text("xx")}, {text("\xff"), text("\xfe")}, {bin(num(1), "<", num(2)), bin(num(1), "<=", num(2))}, {call("F"), call("G")},
		{truth(true), truth(false)},
		{fault(1), fault(2)}, {fault(0), fault(1)}, {fault(8), fault(-8)},
		{ref(cellA1), ref(api.Ref{Row: 1})}, {ref(cellA1), ref(api.Ref{Col: 1})}, {ref(cellA1), ref(api.Ref{RowAbs: true})}, {ref(cellA1), ref(api.Ref{ColAbs: true})}, {ref(cellA1), ref(api.Ref{Sheet: "c0n0"})}, {ref(api.Ref{Row: -1}), ref(api.Ref{Row: -2})},
		{ref(cellA1), {Kind: api.XRef}}, {ref(cellA1), {Kind: api.XRef, Refs: []api.Ref{{}, {}}}},
		{area(cellA1, cellB2), area(cellB2, cellA1)}, {area(cellA1, cellB2), area(cellA1, cellA1)}, {area(cellA1, cellB2), area(farC3, cellB2)},
		{call1, call("F", num(2), num(1))}, {call1, call("F", num(1))}, {call1, call("F", num(1), num(2), num(3))}, {call1, call("F")}, {call1, call("F", num(1), num(3))}, {call1, call("F", num(3), num(2))}, {call1, call("F", num(1), neg(num(2)))},
		{call("F", call("G"), num(1)), call("F", call("G", num(1)))}, {num(1), {Kind: api.XNum, Num: 10000, Kids: []api.Expr{{}}}},
	}
}

// copied is the same tree in memory of its own.
func copied(e api.Expr) api.Expr {
	e.Text = strings.Clone(e.Text)
	e.Refs = slices.Clone(e.Refs)
	e.Kids = slices.Clone(e.Kids)
	for i, kid := range e.Kids {
		e.Kids[i] = copied(kid)
	}
	return e
}

func checkEq(t *testing.T, a, b api.Expr, want bool) {
	t.Helper()
	if Eq(a, b) != want || Eq(b, a) != want {
		t.Errorf("P7.1: Eq is %v, %v of %.200s and %.200s", Eq(a, b), Eq(b, a), tell(a), tell(b))
	}
}

func TestEq(t *testing.T) {
	for _, p := range pairs() {
		left, right := within(p[0]), within(p[1])
		for i := range left {
			checkEq(t, left[i], right[i], false)
			checkEq(t, left[i], copied(left[i]), true)
			checkEq(t, right[i], copied(right[i]), true)
			checkEq(t, left[i], left[i], true)
		}
	}
	l := good()
	for i := range l {
		for j := range l {
			checkEq(t, l[i], copied(l[j]), i == j)
		}
	}
}

func TestEqEachField(t *testing.T) {
	for _, e := range append(good(), api.Expr{}) {
		for _, put := range fields() {
			x := copied(e)
			put(&x)
			left, right := within(e), within(x)
			for i := range left {
				checkEq(t, left[i], right[i], tell(e) == tell(x))
			}
		}
	}
}

func TestEqEmptyLists(t *testing.T) {
	e := call("F", num(1), call("G"))
	x := call("F", num(1), api.Expr{Kind: api.XCall, Text: "G", Refs: []api.Ref{}, Kids: []api.Expr{}})
	if !Eq(e, x) || !Eq(x, e) || !Eq(api.Expr{}, api.Expr{Refs: make([]api.Ref, 0, 3), Kids: make([]api.Expr, 0, 3)}) {
		t.Error("P7.1, P0.4: Eq tells nil lists from empty ones")
	}
}

func TestEqGreatTrees(t *testing.T) {
	chain := func(n int, leaf api.Expr) api.Expr { return nest(n, leaf, neg) }
	n := 300000
	if !Eq(chain(n, num(1)), chain(n, num(1))) || Eq(chain(n, num(1)), chain(n, num(2))) || Eq(chain(n, num(1)), chain(n+1, num(1))) {
		t.Error("P7.1, P0.1: Eq of deep trees")
	}
	row := slices.Repeat([]api.Expr{num(1)}, n)
	other := slices.Clone(row)
	other[n-1] = num(2)
	if !Eq(call("F", row...), call("F", row...)) || Eq(call("F", row...), call("F", other...)) || Eq(call("F", row...), call("F", row[1:]...)) {
		t.Error("P7.1, P0.1: Eq of wide trees")
	}
}

// doubled stands on one tree at both sides of each node, so that it has more nodes than can be gone through.
func doubled(n int, leaf api.Expr) api.Expr {
	return nest(n, leaf, func(e api.Expr) api.Expr { return bin(e, "+", e) })
}

// looped is a tree that is its own kid, so many nodes further down.
func looped(nodes []api.Expr) api.Expr {
	lists := make([][]api.Expr, len(nodes))
	for i, e := range nodes {
		e.Kids = nil
		lists[i] = []api.Expr{e}
	}
	for i := range lists {
		lists[i][0].Kids = lists[(i+1)%len(lists)]
	}
	return lists[0][0]
}

func TestTreesWithoutEnd(t *testing.T) {
	minus := func(n int) []api.Expr { return slices.Repeat([]api.Expr{{Kind: api.XNeg}}, n) }
	odd := minus(7)
	odd[5].Kind = api.XCall
	for i, e := range []api.Expr{doubled(1000, num(1)), doubled(49, num(1)), looped(minus(1)), looped(minus(7)), looped(odd)} {
		if May(e) || Count(e) != 201 || !Eq(e, e) || Eq(e, num(1)) || Eq(num(1), e) || Eq(e, doubled(1000, text("x"))) {
			t.Errorf("P7.1, P0.1: tree %d: May %v, Count %d", i, May(e), Count(e))
		}
	}
	if !Eq(doubled(1000, num(1)), doubled(1000, num(1))) || Eq(doubled(1000, num(1)), doubled(1000, num(2))) || Eq(doubled(1000, num(1)), doubled(1001, num(1))) {
		t.Error("P7.1, P0.1: Eq of trees that stand on one tree many times")
	}
	if !Eq(looped(minus(3)), looped(minus(5))) || Eq(looped(minus(7)), looped(odd)) || !Eq(looped(odd), looped(slices.Repeat(odd, 3))) || Eq(looped(odd), looped(slices.Concat(odd, minus(7)))) {
		t.Error("P7.1, P0.1: Eq of trees that are their own kids")
	}
}

// Lists that begin at one place are not the same if one is longer.
func TestEqListsThatShareMemory(t *testing.T) {
	room, other := []api.Expr{num(1), num(2), num(3)}, []api.Expr{num(1), num(2), num(4)}
	for n := range 4 {
		for m := range 4 {
			a := call("F", call("F", room[:n]...), api.Expr{Kind: api.XCall, Kids: room[:n]}, api.Expr{Kind: api.XCall, Kids: room[:m]})
			b := call("F", call("F", room[:n]...), api.Expr{Kind: api.XCall, Kids: other[:n]}, api.Expr{Kind: api.XCall, Kids: other[:m]})
			checkEq(t, a, b, n < 3 && m < 3)
		}
	}
}

// A list that stands at two places of one tree is compared with both of those of the other.
func TestEqOneListBesideTwo(t *testing.T) {
	one := call("F", num(1), num(2))
	twice := call("G", one, one, one)
	for i := range 3 {
		other := copied(twice)
		checkEq(t, twice, other, true)
		other.Kids[i].Kids[1] = num(3)
		checkEq(t, twice, other, false)
	}
}

func TestCount(t *testing.T) {
	if Count(api.Expr{}) != 1 || Count(num(1)) != 1 || Count(area(cellA1, cellB2)) != 1 || Count(call("F")) != 1 {
		t.Error("P7.1: Count of one node is not 1")
	}
	if Count(bin(neg(num(1)), "+", call("F", num(1), text("x")))) != 6 {
		t.Error("P7.1: Count of six nodes is not 6")
	}
	for n := 1; n < 500; n++ {
		deep := nest(n-1, num(1), neg)
		row := api.Expr{Kids: make([]api.Expr, n-1)}
		both := api.Expr{Kids: slices.Repeat([]api.Expr{neg(num(1))}, n-1)}
		last := api.Expr{Kids: []api.Expr{num(1), deep, row}}
		if Count(deep) != min(n, 201) || Count(row) != min(n, 201) || Count(both) != min(2*n-1, 201) || Count(last) != min(2*n+2, 201) {
			t.Errorf("P7.1: Count at %d is %d, %d, %d, %d", n, Count(deep), Count(row), Count(both), Count(last))
		}
	}
	for _, n := range []int{100000, 300000} {
		if Count(nest(n, num(1), neg)) != 201 || Count(api.Expr{Kids: make([]api.Expr, n)}) != 201 {
			t.Error("P7.1, P0.1: Count of a great tree is not 201")
		}
		if May(nest(n, num(1), neg)) || May(call("F", make([]api.Expr, n)...)) {
			t.Error("P7.1, P0.1: May of a great tree is true")
		}
	}
}

// roomy is e with spare room behind each of its lists, all of them full of marks.
func roomy(e api.Expr) api.Expr {
	refs := append(slices.Clone(e.Refs), api.Ref{Sheet: "mark"}, api.Ref{Row: 77})
	kids := append(slices.Clone(e.Kids), text("mark"), num(77))
	for i, kid := range e.Kids {
		kids[i] = roomy(kid)
	}
	e.Refs, e.Kids = refs[:len(e.Refs)], kids[:len(e.Kids)]
	return e
}

// whole tells e with the spare room of its lists.
func whole(e api.Expr) string {
	s := tell(api.Expr{Kind: e.Kind, Num: e.Num, Text: e.Text, Bool: e.Bool, Err: e.Err, Refs: e.Refs[:cap(e.Refs)]})
	for i, kid := range e.Kids[:cap(e.Kids)] {
		if i < len(e.Kids) {
			s += " (" + whole(kid) + ")"
		} else {
			s += " (" + tell(kid) + ")"
		}
	}
	return s
}

func TestArgumentsAreNotChanged(t *testing.T) {
	for _, e := range good() {
		for _, x := range within(e) {
			a, b := roomy(x), roomy(x)
			if whole(a) != whole(b) {
				t.Fatal("the test's own trees differ")
			}
			May(a)
			Count(a)
			Eq(a, x)
			Eq(x, a)
			if whole(a) != whole(b) {
				t.Errorf("P0.3: %.100s is changed", tell(x))
			}
		}
	}
}

// fill writes into all lists of e, from the deepest, and into their spare room.
func fill(e api.Expr, mark api.Fix) {
	for i := range e.Kids {
		fill(e.Kids[i], mark)
	}
	refs, kids := e.Refs[:cap(e.Refs)], e.Kids[:cap(e.Kids)]
	for i := range refs {
		refs[i] = api.Ref{Row: int64(mark)}
	}
	for i := range kids {
		kids[i] = api.Expr{Num: mark}
	}
}

func TestAnswersAreNewMemory(t *testing.T) {
	l := examples()
	for _, x := range firstThings() {
		l = append(l, x.written, "F("+x.written+","+x.written+",1)+"+x.written)
	}
	for _, s := range l {
		a, _ := Parse(s)
		b, _ := Parse(s)
		want := tell(b)
		fill(a, 99)
		if tell(b) != want {
			t.Errorf("P0.3: two answers of Parse(%q) share memory", s)
		}
		if c, _ := Parse(s); tell(c) != want {
			t.Errorf("P0.3, P0.5: Parse(%q) is another after its answer was written to", s)
		}
	}
}

// lists are where the lists of e lie, from the first byte to behind the last one of their spare room.
func lists(e api.Expr) [][2]uintptr {
	var l [][2]uintptr
	if cap(e.Refs) > 0 {
		from := uintptr(unsafe.Pointer(unsafe.SliceData(e.Refs)))
		l = append(l, [2]uintptr{from, from + uintptr(cap(e.Refs))*unsafe.Sizeof(api.Ref{})})
	}
	if cap(e.Kids) > 0 {
		from := uintptr(unsafe.Pointer(unsafe.SliceData(e.Kids)))
		l = append(l, [2]uintptr{from, from + uintptr(cap(e.Kids))*unsafe.Sizeof(api.Expr{})})
	}
	for _, kid := range e.Kids {
		l = append(l, lists(kid)...)
	}
	return l
}

func TestListsOfAnAnswerShareNoMemory(t *testing.T) {
	for _, s := range append(examples(), "F(F(1,2),F(3,4,A1),F(5,G(6),7,8,B2:C3))*2-F()-3-4") {
		e, _ := Parse(s)
		l := lists(e)
		slices.SortFunc(l, func(a, b [2]uintptr) int { return int(a[0]) - int(b[0]) })
		for i := 1; i < len(l); i++ {
			if l[i][0] < l[i-1][1] {
				t.Errorf("P0.3: two lists of Parse(%q) share memory", s)
			}
		}
	}
}

func TestTextsOfAnAnswerAreNewMemory(t *testing.T) {
	room := []byte(`F("abc",c1n2!A1:B2)`)
	s := unsafe.String(&room[0], len(room))
	e, err := Parse(s)
	want := tell(e)
	for i := range room {
		room[i] = 'x'
	}
	if err != api.OK || tell(e) != want {
		t.Errorf("P0.3: what Parse answered is a piece of its argument: %s, not %s", tell(e), want)
	}
}

func TestSameAnswerAgain(t *testing.T) {
	for _, s := range append(examples(), "", "1+", strings.Repeat("-", 60)+"1") {
		a, x := Parse(s)
		b, y := Parse(s)
		if tell(a) != tell(b) || x != y {
			t.Errorf("P0.5: Parse(%q) is %s, %d, then %s, %d", s, tell(a), x, tell(b), y)
		}
	}
}
