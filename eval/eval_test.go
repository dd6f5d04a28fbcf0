package eval

import (
	"cmp"
	"fmt"
	"maps"
	"slices"
	"strings"
	"testing"

	"counterpane/a1"
	"counterpane/api"
	"counterpane/parse"
	"counterpane/show"
)

const (
	here  = "c0n0"
	there = "c1n2"
	gone  = "c3n3"
)

// book is an env that notes what it is asked.
type book struct {
	sheets []string
	cells  map[api.At]api.Value
	asked  []string
}

func (b *book) Cell(at api.At) (api.Value, bool) {
	b.asked = append(b.asked, fmt.Sprintf("%s!%d,%d", at.Sheet, at.Row, at.Col))
	if !slices.Contains(b.sheets, at.Sheet) {
		return api.Value{}, false
	}
	return b.cells[at], true
}

func (b *book) Range(sheet string, r0, c0, r1, c1 int64) ([]api.Value, bool) {
	b.asked = append(b.asked, fmt.Sprintf("%s!%d,%d:%d,%d", sheet, r0, c0, r1, c1))
	if !slices.Contains(b.sheets, sheet) {
		return nil, false
	}
	var l []api.Value
	for _, at := range slices.SortedFunc(maps.Keys(b.cells), byPlace) {
		if at.Sheet == sheet && r0 <= at.Row && at.Row <= r1 && c0 <= at.Col && at.Col <= c1 {
			l = append(l, b.cells[at])
		}
	}
	return l, true
}

func byPlace(a, b api.At) int {
	return cmp.Or(cmp.Compare(a.Sheet, b.Sheet), cmp.Compare(a.Row, b.Row), cmp.Compare(a.Col, b.Col))
}

// val is the value that one gets who writes s into a cell.
func val(s string) api.Value {
	c, err := show.Read(s)
	if err != api.OK || c.Formula {
		panic("the test's own value " + s + " is none")
	}
	return c.Value
}

// put lays v at a place such as c1n2!A1, or A1 on the sheet here.
func (b *book) put(place string, v api.Value) {
	r, ok := a1.Parse(place)
	if !ok {
		panic("the test's own place " + place + " is none")
	}
	b.cells[api.At{Sheet: cmp.Or(r.Sheet, here), Row: r.Row, Col: r.Col}] = v
}

// of is a book of the sheets here and there, with what is written into cells: a place, a value, a place, a value ...
func of(written ...string) *book {
	b := &book{sheets: []string{here, there}, cells: map[api.At]api.Value{}}
	for i := 0; i < len(written); i += 2 {
		b.put(written[i], val(written[i+1]))
	}
	return b
}

// sample has cells of each kind.
func sample() *book {
	return of("A1", "1", "B1", "2.5", "C1", "-4", "A2", "x", "B2", "TRUE", "C2", "'7", "A3", "FALSE", "A4", "#N/A", "B4", "#DIV/0!",
		"c1n2!A1", "10", "c1n2!B1", "20", "c1n2!A2", "there", "c1n2!C3", "#NUM!", "JMTMMTQOF2199023255552", "99", "c1n2!JMTMMTQOF1", "98")
}

// formula is the tree of s.
func formula(t *testing.T, s string) api.Expr {
	t.Helper()
	e, err := parse.Parse(s)
	if err != api.OK {
		t.Fatalf("the test's own formula %q is none", s)
	}
	return e
}

// told is v as a failure tells it, whatever its bytes and its length.
func told(v any) string { return fmt.Sprintf("%.300q", fmt.Sprint(v)) }

// want is written as a cell shows it, so that an empty one is a blank and ' the empty text.
func check(t *testing.T, s, home string, env Env, want string) {
	t.Helper()
	if got := Eval(formula(t, s), home, env); got != val(want) {
		t.Errorf("P13.1: %s on %q: %s; want %s", s, home, told(got), told(want))
	}
}

// checkAll asks on the sheet here of the sample; the list is a formula, its worth, a formula, its worth ...
func checkAll(t *testing.T, list ...string) {
	t.Helper()
	for i := 0; i < len(list); i += 2 {
		check(t, list[i], here, sample(), list[i+1])
	}
}

// checkAsked wants that env was asked just that, in that order.
func checkAsked(t *testing.T, s, home string, want ...string) {
	t.Helper()
	b := sample()
	Eval(formula(t, s), home, b)
	if !slices.Equal(b.asked, want) {
		t.Errorf("P13.1: %s on %q asks for %q, not %q", s, home, b.asked, want)
	}
}

func TestThingsThemselves(t *testing.T) {
	checkAll(t,
		"0", "0", "7", "7", "1.5", "1.5", "0.0001", "0.0001", "922337203685477.5807", "922337203685477.5807",
		`""`, "'", `"x"`, "x", `"é"`, "é", `"1"`, "'1", `"TRUE"`, "'TRUE", `"#REF!"`, "'#REF!", `"A1"`, "A1", `"=A1"`, "'=A1", `"a""b"`, `a"b`,
		"TRUE", "TRUE", "FALSE", "FALSE", "(TRUE)", "TRUE", "((3))", "3",
		"#REF!", "#REF!", "#CYCLE!", "#CYCLE!", "#DIV/0!", "#DIV/0!", "#NUM!", "#NUM!", "#VALUE!", "#VALUE!", "#NAME?", "#NAME?", "#N/A", "#N/A",
	)
	long := strings.Repeat("é", 100)
	checkAll(t, `"`+long+`"`, long)
	for _, s := range []string{"0", "1.5", `"x"`, "TRUE", "FALSE", "#N/A", `1+2&"x"`} {
		for _, home := range []string{"", here, gone, "no id"} {
			checkAsked(t, s, home)
		}
	}
}

func TestReferences(t *testing.T) {
	checkAll(t,
		"A1", "1", "B1", "2.5", "C1", "-4", "A2", "x", "B2", "TRUE", "C2", "'7", "A3", "FALSE", "A4", "#N/A", "B4", "#DIV/0!", "D4", "", "Z99", "",
		"$A1", "1", "B$1", "2.5", "$C$1", "-4", "(A2)", "x",
		"c0n0!A1", "1", "c0n0!$B$2", "TRUE", "c0n0!D4", "", "c1n2!A1", "10", "c1n2!$B1", "20", "c1n2!A2", "there", "c1n2!C3", "#NUM!", "c1n2!D4", "",
		"JMTMMTQOF2199023255552", "99", "c1n2!JMTMMTQOF1", "98", "c1n2!JMTMMTQOF2199023255552", "",
		"c3n3!A1", "#REF!", "c3n3!$Z$99", "#REF!", "c0n1!A1", "#REF!", "c15n999999!JMTMMTQOF2199023255552", "#REF!",
	)
}

func TestSheetOfReferences(t *testing.T) {
	for _, x := range []struct{ s, home, want string }{
		{"A1", there, "10"}, {"B1", there, "20"}, {"A4", there, ""}, {"C3", there, "#NUM!"}, {"c0n0!A1", there, "1"}, {"c1n2!A1", there, "10"},
		{"A1", gone, "#REF!"}, {"Z99", gone, "#REF!"}, {"c0n0!A1", gone, "1"}, {"c3n3!A1", gone, "#REF!"},
		{"A1", "", "#REF!"}, {"c0n0!A1", "", "1"}, {"A1", "no id", "#REF!"}, {"c1n2!A1", "no id", "10"}, {"A1", "C0N0", "#REF!"}, {"A1", "c0n00", "#REF!"},
		{"SUM(A1:B1)", there, "30"}, {"SUM(c0n0!A1:B1)", there, "3.5"}, {"SUM(A1:B1)", gone, "#REF!"}, {"SUM(c1n2!A1:B1)", gone, "30"}, {"SUM(A1:B1)", "", "#REF!"}, {"SUM(A1:B1)", "\xff", "#REF!"},
	} {
		check(t, x.s, x.home, sample(), x.want)
	}
	// Which sheets there are, whatever their names, only the env knows.
	odd := &book{sheets: []string{"", "no id"}, cells: map[api.At]api.Value{{Row: 0}: val("5"), {Sheet: "no id"}: val("6")}}
	check(t, "A1+SUM(A1:B2)", "", odd, "10")
	check(t, "A1+SUM(A1:B2)", "no id", odd, "12")
	check(t, "A1+SUM(A1:B2)", here, odd, "#REF!")
	check(t, "c0n0!A1", "", odd, "#REF!")
}

func TestCellsThatAreAsked(t *testing.T) {
	for _, home := range []string{here, there, gone, "", "no id"} {
		checkAsked(t, "A1", home, home+"!0,0")
		checkAsked(t, "$C2", home, home+"!1,2")
		checkAsked(t, "B$3", home, home+"!2,1")
		checkAsked(t, "JMTMMTQOF2199023255552", home, home+"!2199023255551,2199023255551")
		checkAsked(t, "c1n2!B3", home, "c1n2!2,1")
		checkAsked(t, "c3n3!B3", home, "c3n3!2,1")
		checkAsked(t, "-A1+c1n2!B1*A1", home, home+"!0,0", "c1n2!0,1", home+"!0,0")
	}
}

// Ends are written in each of the four ways.
func TestEndsOfRanges(t *testing.T) {
	b := func() *book {
		return of("B2", "1", "C2", "2", "B3", "4", "C3", "8", "B4", "16", "C4", "32", "A1", "1000", "D5", "1000", "A3", "1000", "D3", "1000", "B1", "1000", "C5", "1000")
	}
	for _, s := range []string{"B2:C4", "C4:B2", "B4:C2", "C2:B4", "$B$2:C4", "C$4:$B2", "$B4:C$2", "$C$2:$B$4", "c0n0!B2:C4", "c0n0!C4:B2", "c0n0!$B4:C2", "c0n0!C2:B$4"} {
		check(t, "SUM("+s+")", here, b(), "63")
		check(t, "MIN("+s+")", here, b(), "1")
		check(t, "MAX("+s+")", here, b(), "32")
		check(t, "COUNT("+s+")", here, b(), "6")
		check(t, "AVERAGE("+s+")", here, b(), "10.5")
		check(t, "SUM(("+s+"))", here, b(), "63")
		checkAsked(t, "SUM("+s+")", here, "c0n0!1,1:3,2")
	}
	for _, s := range []string{"c1n2!B2:C4", "c1n2!C4:B2", "c1n2!B4:C2", "c1n2!C2:B4"} {
		for _, home := range []string{here, there, gone, ""} {
			checkAsked(t, "SUM("+s+")", home, "c1n2!1,1:3,2")
		}
		check(t, "SUM("+s+")", here, b(), "0")
	}
	for _, home := range []string{here, there, gone, "", "no id"} {
		for _, s := range []string{"B2:C4", "C4:B2", "B4:C2", "C2:B4"} {
			checkAsked(t, "SUM("+s+")", home, home+"!1,1:3,2")
		}
		checkAsked(t, "SUM(B2:B2)", home, home+"!1,1:1,1")
		checkAsked(t, "SUM(B2:B4)", home, home+"!1,1:3,1")
		checkAsked(t, "SUM(B4:B2)", home, home+"!1,1:3,1")
		checkAsked(t, "SUM(B2:D2)", home, home+"!1,1:1,3")
		checkAsked(t, "SUM(D2:B2)", home, home+"!1,1:1,3")
		checkAsked(t, "SUM(A2199023255552:JMTMMTQOF1)", home, home+"!0,0:2199023255551,2199023255551")
	}
}

func TestRanges(t *testing.T) {
	checkAll(t,
		"SUM(A1:C1)", "-0.5", "SUM(A1:C3)", "-0.5", "COUNT(A1:C3)", "3", "SUM(A1:B4)", "#DIV/0!", "SUM(A1:A4)", "#N/A", "COUNT(A2:C3)", "0", "SUM(Z1:Z9)", "0", "AVERAGE(Z1:Z9)", "#DIV/0!",
		"SUM(A1:A1)", "1", "SUM(A2:A2)", "0", "COUNT(B1:B1)", "1", "SUM(A4:A4)", "#N/A", "SUM(Z9:Z9)", "0", "MAX(C1:C1)", "-4",
		"SUM(A1:JMTMMTQOF1)", "-0.5", "SUM(A2199023255552:JMTMMTQOF2199023255552)", "99", "SUM(JMTMMTQOF2199023255552:JMTMMTQOF2199023255552)", "99",
		"SUM(c1n2!A1:B2)", "30", "SUM(c1n2!A1:C3)", "#NUM!", "SUM(c0n0!A1:B1,c1n2!A1:B1,A1,1)", "35.5", "MAX(A1:C1,c1n2!A1:A2,5)", "10", "SUM(A1:C1,A1:C1)", "-1",
		"SUM(c3n3!A1:B2)", "#REF!", "COUNT(c3n3!A1:A1)", "#REF!", "SUM(A4:B4,c3n3!A1:B2)", "#REF!", "AVERAGE(1,c3n3!Z99:A1,2)", "#REF!",
		"CONCAT(A1:B1)", "#VALUE!", "CONCAT(A2:A2)", "#VALUE!", "ABS(A1:A1)", "#VALUE!", "ABS((A1:B1))", "#VALUE!", "LEN(A2:A2)", "#VALUE!", "NOT(B2:B2)", "#VALUE!", "ISERROR(A4:A4)", "#VALUE!", "ISERROR(Z1:Z9)", "#VALUE!",
		"AND(B2:B2)", "#VALUE!", "OR(TRUE,A1:B1)", "#VALUE!", "IF(B2:B2,1,2)", "#VALUE!", "IF(TRUE,A1:A1,2)", "#VALUE!", "IF(TRUE,1,A1:A1)", "#VALUE!", "IF(#REF!,1,A1:A1)", "#VALUE!", "NA(A1:A1)", "#VALUE!", "NOPE(A1:A1)", "#NAME?",
	)
}

// What a range is worth that the env does not have is an error as any other.
func TestRangesThatTheEnvHasNot(t *testing.T) {
	checkAll(t,
		"ISERROR(c3n3!A1:B2)", "TRUE", "ABS(c3n3!A1:B2)", "#REF!", "CONCAT(A1,c3n3!A1:B2)", "#REF!", "OR(#N/A,c3n3!A1:A1)", "#REF!", "IF(c3n3!A1:B2,1,2)", "#REF!", "IF(TRUE,1,c3n3!A1:B2)", "1", "IF(FALSE,1,c3n3!A1:B2)", "#REF!",
		"NOPE(c3n3!A1:B2)", "#NAME?", "NA(c3n3!A1:B2)", "#VALUE!", "CONCAT(A1:B1,c3n3!A1:B2)", "#VALUE!", "ABS(c3n3!A1,c3n3!A1:B2)", "#VALUE!",
	)
}

func operators() []string {
	return []string{"=", "<>", "<", "<=", ">", ">=", "&", "+", "-", "*", "/"}
}

// Ranges are worth nothing, and are not asked for, where they are no arguments.
func TestRangesElsewhere(t *testing.T) {
	for _, r := range []string{"A1:B1", "B1:A1", "A1:A1", "Z1:Z9", "A4:B4", "c1n2!A1:B1", "c3n3!A1:B1"} {
		for _, s := range []string{r, "(" + r + ")", "-" + r, "--" + r, "-(" + r + ")", "SUM(-" + r + ")", "SUM(1," + r + "+1)", "SUM(--" + r + ")", "ABS(-" + r + ")", "IF(TRUE,-" + r + ")", r + "+" + r} {
			check(t, s, here, sample(), "#VALUE!")
			checkAsked(t, s, here)
		}
		for _, op := range operators() {
			for _, s := range []string{r + op + "1", "1" + op + r, `"x"` + op + r, r + op + "#N/A", "#NAME?" + op + r, "CONCAT(" + r + op + "2)"} {
				check(t, s, here, sample(), "#VALUE!")
				checkAsked(t, s, here)
			}
			check(t, r+op+"#NUM!", here, sample(), "#NUM!")
			check(t, "#REF!"+op+r, here, sample(), "#REF!")
			checkAsked(t, "A1"+op+r, there, "c1n2!0,0")
			checkAsked(t, r+op+"A1", there, "c1n2!0,0")
		}
		check(t, "ISERROR(-"+r+")", here, sample(), "TRUE")
		check(t, "IF(TRUE,1,-"+r+")", here, sample(), "1")
		check(t, "SUM(#REF!,"+r+"&1)", here, sample(), "#REF!")
	}
}

func TestOperators(t *testing.T) {
	checkAll(t,
		"1+2", "3", "1-2", "-1", "2*3.5", "7", "1/3", "0.3333", "1&2", "'12", "1=1", "TRUE", "1=2", "FALSE", "1<>2", "TRUE", "1<>1", "FALSE", "1<2", "TRUE", "2<1", "FALSE", "2<2", "FALSE",
		"1<=2", "TRUE", "2<=2", "TRUE", "3<=2", "FALSE", "2>1", "TRUE", "1>2", "FALSE", "2>2", "FALSE", "2>=1", "TRUE", "2>=2", "TRUE", "1>=2", "FALSE",
		"1+2*3", "7", "(1+2)*3", "9", "10-2-3", "5", "10-(2-3)", "11", "8/4/2", "1", "8/(4/2)", "4", "1+1&2+2", "'24", "1&1=11", "FALSE", `1&1="11"`, "TRUE", "1<2=TRUE", "TRUE", "2-1", "1", `"a"&"b"`, "ab", `"b"&"a"`, "ba",
		"A1+B1", "3.5", "A1-B1", "-1.5", "B1-A1", "1.5", "B1*C1", "-10", "C1/B1", "-1.6", "B1/C1", "-0.625", "A2&A1", "x1", "A1&A2", "1x", "B2+1", "2", "C2*2", "14", "A2+1", "#VALUE!", "1*A2", "#VALUE!", "A1<B1", "TRUE", "B1<A1", "FALSE", "A1=c1n2!A1", "FALSE", "c1n2!A1-A1", "9",
		"D9+1", "1", "D9&D9", "'", "D9=0", "TRUE", `D9=""`, "TRUE", "D9=FALSE", "TRUE", "D9=D9", "TRUE", "D9*5", "0", "1/D9", "#DIV/0!",
		"1/0", "#DIV/0!", "922337203685477+1", "#NUM!", "A4+B4", "#DIV/0!", "B4+A4", "#DIV/0!", "A4=A4", "#N/A", "A2+A4", "#N/A", "c3n3!A1+1", "#REF!", "A4&c3n3!A1", "#REF!", "c3n3!A1=c3n3!A1", "#REF!", "1/0+#NUM!", "#DIV/0!", "#NAME?*(1/0)", "#DIV/0!",
	)
	long := strings.Repeat("a", 200)
	checkAll(t, `"`+long+`"&""`, long, `"`+long+`"&1`, "#VALUE!")
}

func TestMinusAhead(t *testing.T) {
	checkAll(t,
		"-1", "-1", "--1", "1", "-0", "0", "-1.5", "-1.5", "-A1", "-1", "-C1", "4", "--C1", "-4", "-A2", "#VALUE!", "-B2", "-1", "-C2", "-7", "-A3", "0", "-D9", "0", "-A4", "#N/A", "-c1n2!A1", "-10", "-c3n3!A1", "#REF!",
		`-"3"`, "-3", `-"x"`, "#VALUE!", "-TRUE", "-1", "-#NUM!", "#NUM!", "-SUM(A1:B1)", "-3.5", "-(1+2)", "-3", "-1+2", "1", "2--1", "3", "2*-3", "-6",
		"-922337203685477.5807", "-922337203685477.5807", "-922337203685477.5807-0.0001", "-922337203685477.5808", "-(-922337203685477.5807-0.0001)", "#NUM!",
	)
}

func TestCallsWithinCalls(t *testing.T) {
	checkAll(t,
		"SUM()", "0", "SUM(1,2,3)", "6", "SUM(A1,B1,C1)", "-0.5", "SUM(A2,B2,C2,A1)", "1", "SUM(SUM(1,2),SUM(3,SUM(4,5)))", "15", "MAX(MIN(3,4),MIN(1,2))", "3", "COUNT(A1,A2,Z9,B1)", "2", "AVERAGE(A1,SUM(B1,B1))", "3",
		"IF(A1=1,B1,B4)", "2.5", "IF(A1=2,B4,C1)", "-4", "IF(A1=2,B4)", "FALSE", "IF(A1,D9)", "", "IF(A4,1,2)", "#N/A", "IF(A2,1,2)", "#VALUE!", "IF(AND(A1,B2),CONCAT(A2,A1),NA())", "x1", "IF(NOT(A3),IF(FALSE,1,IF(TRUE,2,3)),4)", "2",
		"ABS(C1)", "4", "ABS(-SUM(A1:C1))", "0.5", "LEN(CONCAT(A1,A2,B2))", "6", "CONCAT()", "'", "CONCAT(A1,D9,A2)", "1x", "ISERROR(1/0)", "TRUE", "ISERROR(A4)", "TRUE", "ISERROR(A1)", "FALSE", "ISERROR(c3n3!A1)", "TRUE", "ISERROR(ISERROR(NA()))", "FALSE", "NA()", "#N/A", "OR(A3,B2)", "TRUE", "AND(A3,B2)", "FALSE",
		"SUM(A1,c3n3!A1)", "#REF!", "SUM(A4,B4)", "#DIV/0!", "1+SUM(A1:B1)*2", "8", "SUM(A1:B1)&MAX(A1:B1)", "3.52.5", "SUM(A1:B1,-A1:B1)", "#VALUE!", "SUM(1=1,2)", "2", "SUM(-1,1-3)", "-3",
	)
}

func TestUnknownNames(t *testing.T) {
	checkAll(t,
		"NOPE()", "#NAME?", "NOPE(1)", "#NAME?", "F(A1,B1)", "#NAME?", "NOPE(#REF!)", "#NAME?", "NOPE(A1:B2,c3n3!A1)", "#NAME?", "SUMS(1)", "#NAME?", "ABCDEFGHIJKLMNOPQRST(1)", "#NAME?",
		"1+NOPE(1)", "#NAME?", "NOPE(1)/0", "#NAME?", "NOPE()+#REF!", "#REF!", "SUM(NOPE(),1)", "#NAME?", "SUM(NOPE(),NA())", "#NAME?", "ISERROR(NOPE())", "TRUE", "IF(FALSE,NOPE(),2)", "2", "IF(TRUE,NOPE(),2)", "#NAME?", "-NOPE()", "#NAME?", "NOPE(NOPE())", "#NAME?",
	)
}

func TestAllArgumentsAreEvaluated(t *testing.T) {
	const a, b, c, r = "c0n0!0,0", "c0n0!0,1", "c0n0!0,2", "c0n0!0,0:1,1"
	for s, want := range map[string][]string{
		"IF(TRUE,A1,B1)": {a, b}, "IF(FALSE,A1,B1)": {a, b}, "IF(C1,A1,B1)": {c, a, b}, "IF(FALSE,A1)": {a}, "IF(#N/A,A1,B1)": {a, b}, "IF(TRUE,1,A1:B2)": {r}, "IF(A1:B2,B1,C1)": {r, b, c},
		"IF(A1,IF(B1,C1,A1),B1)": {a, b, c, a, b}, "AND(FALSE,A1,B1)": {a, b}, "OR(TRUE,A1,B1)": {a, b}, "AND(#REF!,A1)": {a}, "ABS(A1,B1)": {a, b}, "ABS()": nil, "NA(A1,A1:B2,C1)": {a, r, c},
		"NOPE(A1,A1:B2,-B1)": {a, r, b}, "SUM(A1,A1:B2,B1,C1+A1)": {a, r, b, c, a}, "SUM(#REF!,A1)": {a}, "CONCAT(A1:B2,B1)": {r, b}, "IF(A1)": {a}, "IF(A1,B1,C1,A1)": {a, b, c, a},
		"1/0+A1": {a}, "#REF!&B1": {b}, "A1:B2+C1": {c}, "C1*B1-A1": {c, b, a}, "-(A1=B1)": {a, b}, "ISERROR(NOPE(C1))": {c}, "A1*0": {a},
		"SUM(c3n3!A1,c3n3!A1:B2,A1)": {"c3n3!0,0", "c3n3!0,0:1,1", a}, "IF(TRUE,1,c3n3!B2)": {"c3n3!1,1"},
	} {
		checkAsked(t, s, here, want...)
	}
}
