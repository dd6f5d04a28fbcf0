package eval

import (
	"fmt"
	"math"
	"slices"
	"strings"
	"testing"
	"unsafe"

	"counterpane/api"
	"counterpane/builtin"
	"counterpane/parse"
)

func ref(r api.Ref) api.Expr { return api.Expr{Kind: api.XRef, Refs: []api.Ref{r}} }

func area(a, b api.Ref) api.Expr { return api.Expr{Kind: api.XRange, Refs: []api.Ref{a, b}} }

func num(n api.Fix) api.Expr { return api.Expr{Kind: api.XNum, Num: n * 10000} }

// nest is e within n calls of wrap.
func nest(n int, e api.Expr, wrap func(api.Expr) api.Expr) api.Expr {
	for range n {
		e = wrap(e)
	}
	return e
}

// looped is a tree that is its own kid.
func looped() api.Expr {
	kids := []api.Expr{num(1), {Kind: api.XBin, Text: "+"}}
	kids[1].Kids = kids
	return kids[1]
}

// doubled stands on one tree at both sides of each node, so that it soon has more nodes than can be gone through.
func doubled(n int) api.Expr {
	return nest(n, num(1), func(e api.Expr) api.Expr { return bin(e, "+", e) })
}

func wrongTrees() map[string]api.Expr {
	return map[string]api.Expr{
		"a zero tree":               {},
		"a zero tree with a number": {Num: 10000},
		"a kind below":              {Kind: -1},
		"a kind beyond":             {Kind: 10},
		"a far kind":                {Kind: math.MaxInt},
		"a number below 0":          {Kind: api.XNum, Num: -1},
		"a number with a text":      {Kind: api.XNum, Num: 1, Text: "1"},
		"a number with a kid":       {Kind: api.XNum, Num: 1, Kids: []api.Expr{num(1)}},
		"a text of 201 bytes":       {Kind: api.XText, Text: strings.Repeat("x", 201)},
		"a text that is no UTF-8":   {Kind: api.XText, Text: "a\xff"},
		"a text with an error":      {Kind: api.XText, Text: "a", Err: 1},
		"a truth with a number":     {Kind: api.XBool, Bool: true, Num: 1},
		"the error 0":               {Kind: api.XErr},
		"the error 8":               {Kind: api.XErr, Err: 8},
		"an error below":            {Kind: api.XErr, Err: -1},
		"an error with a truth":     {Kind: api.XErr, Err: 1, Bool: true},
		"no Ref":                    {Kind: api.XRef},
		"two Refs":                  {Kind: api.XRef, Refs: []api.Ref{{}, {Row: 1}}},
		"a Ref with a text":         {Kind: api.XRef, Refs: []api.Ref{{}}, Text: "A1"},
		"a Ref with a kid":          {Kind: api.XRef, Refs: []api.Ref{{}}, Kids: []api.Expr{num(1)}},
		"a lost row":                ref(api.Ref{Row: -1}),
		"a lost column":             ref(api.Ref{Col: -1}),
		"a row beyond":              ref(api.Ref{Row: api.MaxLine}),
		"a column beyond":           ref(api.Ref{Col: api.MaxLine}),
		"a far row":                 ref(api.Ref{Row: math.MinInt64}),
		"a sheet that is none":      ref(api.Ref{Sheet: "c16n0"}),
		"a sheet of another name":   ref(api.Ref{Sheet: "Sheet"}),
		"a range of none":           {Kind: api.XRange},
		"a range of one":            {Kind: api.XRange, Refs: []api.Ref{{}}},
		"a range of three":          {Kind: api.XRange, Refs: []api.Ref{{}, {Row: 1}, {Row: 2}}},
		"a range with a lost end":   area(api.Ref{}, api.Ref{Row: -1}),
		"a range beyond":            area(api.Ref{Col: api.MaxLine}, api.Ref{}),
		"a range of two sheets":     area(api.Ref{Sheet: here}, api.Ref{Sheet: there}),
		"a range's second sheet":    area(api.Ref{}, api.Ref{Sheet: here}),
		"a - with nothing":          {Kind: api.XNeg},
		"a - with two":              {Kind: api.XNeg, Kids: []api.Expr{num(1), num(2)}},
		"a - with a text":           {Kind: api.XNeg, Text: "-", Kids: []api.Expr{num(1)}},
		"an operator with nothing":  {Kind: api.XBin, Text: "+"},
		"an operator with one side": {Kind: api.XBin, Text: "+", Kids: []api.Expr{num(1)}},
		"an operator with three":    {Kind: api.XBin, Text: "+", Kids: []api.Expr{num(1), num(1), num(1)}},
		"no operator":               bin(num(1), "", num(1)),
		"another operator":          bin(num(1), "^", num(2)),
		"a sign that is none":       bin(num(1), ":", num(2)),
		"a call without a name":     call("", num(1)),
		"a name of small letters":   call("sum", num(1)),
		"a truth's name":            call("TRUE"),
		"a name with a digit":       call("LOG2", num(1)),
		"a name of 21 letters":      call(strings.Repeat("A", 21)),
		"a call with 31":            call("SUM", slices.Repeat([]api.Expr{num(1)}, 31)...),
		"a call with a Ref":         {Kind: api.XCall, Text: "SUM", Refs: []api.Ref{{}}},
		"51 deep":                   nest(50, num(1), neg),
		"51 deep by calls":          nest(50, num(1), func(e api.Expr) api.Expr { return call("SUM", e) }),
		"201 nodes":                 bin(call("SUM", slices.Repeat([]api.Expr{nest(6, num(1), neg)}, 28)...), "+", nest(2, num(1), neg)),
		"100,000 deep":              nest(100000, num(1), neg),
		"nodes that are shared":     doubled(10),
		"nodes without number":      doubled(1000),
		"a tree without end":        looped(),
	}
}

// around are trees with e in them, which may not be if e may not.
func around(e api.Expr) []api.Expr {
	x := ref(api.Ref{Row: 1})
	return []api.Expr{
		e, neg(e), bin(x, "+", e), bin(e, "&", x), call("SUM", x, e), call("ISERROR", e), call("IF", api.Expr{Kind: api.XBool, Bool: true}, num(1), e),
		call("NOPE", e), bin(api.Expr{Kind: api.XErr, Err: api.ERef}, "*", e), nest(20, e, func(e api.Expr) api.Expr { return call("COUNT", e) }),
	}
}

func TestTreesThatMayNotBe(t *testing.T) {
	for what, wrong := range wrongTrees() {
		for i, e := range around(wrong) {
			if parse.May(e) {
				t.Fatalf("the test's own tree (%s, %d) may be", what, i)
			}
			for _, env := range []Env{sample(), nil} {
				if got := Eval(e, here, env); got != val("#VALUE!") {
					t.Errorf("P13.1: %s, %d, is worth %s", what, i, told(got))
				}
			}
		}
	}
}

func TestTreesThatMayJustBe(t *testing.T) {
	for what, x := range map[string]struct {
		e    api.Expr
		want string
	}{
		"50 deep":          {nest(49, num(1), neg), "-1"},
		"50 deep by calls": {nest(49, num(1), func(e api.Expr) api.Expr { return call("SUM", e) }), "1"},
		"50 deep by sides": {nest(49, num(1), func(e api.Expr) api.Expr { return bin(num(1), "+", e) }), "50"},
		"200 nodes":        {bin(call("SUM", slices.Repeat([]api.Expr{nest(6, num(1), neg)}, 28)...), "+", neg(num(1))), "27"},
		"a call with 30":   {call("SUM", slices.Repeat([]api.Expr{area(api.Ref{}, api.Ref{Col: 1})}, 30)...), "105"},
		"a text of 200":    {call("LEN", api.Expr{Kind: api.XText, Text: strings.Repeat("x", 200)}), "200"},
		"empty lists":      {api.Expr{Kind: api.XNum, Num: 50000, Refs: []api.Ref{}, Kids: []api.Expr{}}, "5"},
		"a call of none":   {api.Expr{Kind: api.XCall, Text: "SUM", Refs: []api.Ref{}, Kids: []api.Expr{}}, "0"},
		"one list twice":   {doubled(6), "64"},
	} {
		if got := Eval(x.e, here, sample()); got != val(x.want) {
			t.Errorf("P13.1: %s: %s; want %s", what, told(got), x.want)
		}
	}
}

func TestNilEnv(t *testing.T) {
	for _, s := range []string{"1", `"x"`, "TRUE", "#REF!", "#N/A", "A1", "c1n2!A1", "A1:B2", "-1", "1+2", "1/0", "SUM()", "SUM(1,2)", "SUM(A1:B2)", "NA()", "NOPE(1)", "ISERROR(1)", "IF(TRUE,1,A1)"} {
		for _, home := range []string{"", here, "no id"} {
			check(t, s, home, nil, "#VALUE!")
		}
	}
}

// Eval does not fail with an env that does, be it a nil pointer or of another kind.
func TestEnvsThatPanic(t *testing.T) {
	for _, env := range []Env{(*book)(nil), failing{}, struct{ Env }{}} {
		for _, s := range []string{"A1", "-A1", "A1+1", "SUM(1,A1)", "SUM(A1:B2)", "ISERROR(A1)", "NOPE(c1n2!A1)", "IF(TRUE,1,A1:B2)", "IF(FALSE,A1,2)"} {
			check(t, s, here, env, "#VALUE!")
		}
		check(t, "1+2", here, env, "3")
		check(t, "SUM(1,2)&A1:B2", here, env, "#VALUE!")
	}
}

type failing struct{}

func (failing) Cell(api.At) (api.Value, bool) { panic("no cell") }

func (failing) Range(string, int64, int64, int64, int64) ([]api.Value, bool) { panic(nil) }

// barred are values that may not be; each kind of them has one that would count if it were taken as it looks.
func barred() []api.Value {
	return []api.Value{
		{Kind: 9}, {Kind: -1}, {Kind: 5, Err: 1}, {Kind: math.MinInt64}, {Kind: math.MaxInt64},
		{Num: 10000}, {Text: "a"}, {Bool: true}, {Err: 1},
		{Kind: api.VNumber, Num: 70000, Err: 1}, {Kind: api.VNumber, Num: 70000, Bool: true}, {Kind: api.VNumber, Text: "1"},
		{Kind: api.VText, Text: strings.Repeat("a", 201)}, {Kind: api.VText, Text: "\xff"}, {Kind: api.VText, Text: "TRUE", Bool: true},
		{Kind: api.VBool, Bool: true, Num: 10000}, {Kind: api.VBool, Err: 2},
		{Kind: api.VError}, {Kind: api.VError, Err: 8}, {Kind: api.VError, Err: -1}, {Kind: api.VError, Err: 1, Num: 1}, {Kind: api.VError, Err: 7, Text: "#N/A"},
	}
}

// A cell is worth what the env says; what that counts as where it is used is builtin's.
func TestValuesOfTheEnvThatMayNotBe(t *testing.T) {
	for _, v := range barred() {
		b := of("B1", "2", "C1", "#N/A", "D1", "#REF!")
		b.put("A1", v)
		if got := Eval(formula(t, "A1"), here, b); got != v {
			t.Errorf("P13.1: a cell worth %s: %s", told(v), told(got))
		}
		for s, want := range map[string]string{
			"-A1": "#VALUE!", "A1+1": "#VALUE!", "1&A1": "#VALUE!", "A1=A1": "#VALUE!", "A1&C1": "#VALUE!", "D1&A1": "#REF!", "ABS(A1)": "#VALUE!", "LEN(A1)": "#VALUE!", "CONCAT(A1,C1)": "#VALUE!", "CONCAT(D1,A1)": "#REF!",
			"ISERROR(A1)": "TRUE", "IF(A1,1,2)": "#VALUE!", "IF(TRUE,A1)": "#VALUE!", "IF(TRUE,1,A1)": "1", "NOT(A1)": "#VALUE!", "NOPE(A1)": "#NAME?", "ABS(A1:A1)": "#VALUE!", "A1:B1": "#VALUE!",
			"SUM(A1)": "0", "SUM(A1,B1)": "2", "SUM(A1:B1)": "2", "COUNT(A1:B1,A1)": "1", "MAX(A1:B1)": "2", "MIN(A1,A1:B1)": "2", "AVERAGE(A1:B1)": "2", "AVERAGE(A1)": "#DIV/0!", "SUM(A1:C1)": "#N/A", "SUM(A1:D1)": "#REF!",
		} {
			check(t, s, here, b, want)
		}
		checkModel(t, formula(t, "SUM(A1:B1)&CONCAT(B1,IF(ISERROR(A1),B1))"), here, b)
	}
}

// fixed answers always the same.
type fixed struct {
	value api.Value
	list  []api.Value
	ok    bool
}

func (f fixed) Cell(api.At) (api.Value, bool) { return f.value, f.ok }

func (f fixed) Range(string, int64, int64, int64, int64) ([]api.Value, bool) { return f.list, f.ok }

func TestAnswersOfTheEnv(t *testing.T) {
	// Beside a false nothing else counts.
	for _, v := range append(barred(), val("5"), val("x"), val("#N/A"), val("TRUE")) {
		env := fixed{v, []api.Value{v, val("7")}, false}
		for _, s := range []string{"A1", "-A1", "A1&1", "SUM(A1)", "SUM(A1:B2)", "SUM(7,A1:B2)", "COUNT(A1:B2)", "CONCAT(A1)"} {
			check(t, s, here, env, "#REF!")
		}
		check(t, "A1:B2", here, env, "#VALUE!")
	}
	// A range may have none, blanks, or more than its cells.
	for _, list := range [][]api.Value{nil, {}, {val("")}, {val(""), val("x")}} {
		env := fixed{list: list, ok: true}
		check(t, "SUM(A1:B2)", here, env, "0")
		check(t, "AVERAGE(A1:B2)", here, env, "#DIV/0!")
		check(t, "ABS(A1:A1)", here, env, "#VALUE!")
		check(t, "CONCAT(A1:A1)", here, env, "#VALUE!")
		check(t, "A1", here, env, "")
	}
	many := slices.Repeat([]api.Value{val("2"), val("x"), val("")}, 100000)
	check(t, "SUM(A1:A1,A1:A1)", here, fixed{list: many, ok: true}, "400000")
	check(t, "SUM(A1:A1)", here, fixed{list: append(many, val("#CYCLE!")), ok: true}, "#CYCLE!")
}

// miser answers all ranges in one list, and writes into it each time.
type miser struct {
	list [2]api.Value
	next api.Fix
}

func (m *miser) Cell(api.At) (api.Value, bool) {
	m.list = [2]api.Value{}
	return val("1000"), true
}

func (m *miser) Range(string, int64, int64, int64, int64) ([]api.Value, bool) {
	for i := range m.list {
		m.next++
		m.list[i] = api.Value{Kind: api.VNumber, Num: m.next * 10000}
	}
	return m.list[:], true
}

func TestListsThatTheEnvUsesAgain(t *testing.T) {
	check(t, "SUM(A1:B1)", here, &miser{}, "3")
	check(t, "SUM(A1:B1,A1:B1,A1:B1)", here, &miser{}, "21")
	check(t, "SUM(A1:B1,A1,A1:B1,A1)", here, &miser{}, "2010")
	check(t, "MIN(A1:B1,SUM(A1:B1),A1)", here, &miser{}, "1")
}

// within evaluates formulas of its cells when it is asked for them.
type within map[string]string

func (w within) Cell(at api.At) (api.Value, bool) {
	e, err := parse.Parse(w[fmt.Sprint(at.Row, ",", at.Col)])
	return Eval(e, at.Sheet, w), err == api.OK
}

func (w within) Range(sheet string, r0, c0, r1, c1 int64) ([]api.Value, bool) {
	a, okA := w.Cell(api.At{Sheet: sheet, Row: r0, Col: c0})
	b, okB := w.Cell(api.At{Sheet: sheet, Row: r1, Col: c1})
	return []api.Value{a, b}, okA && okB
}

func TestEnvsThatEvaluate(t *testing.T) {
	w := within{"0,0": "B1+1", "0,1": "C1*2", "0,2": "SUM(A2,B2)", "1,0": "3", "1,1": "4", "2,0": "SUM(B1:A1)"}
	check(t, "A1", here, w, "15")
	check(t, "SUM(A1:B1,A3)+A1", here, w, "73")
	check(t, "Z9", here, w, "#REF!")
}

// lists tells e with all that stands in its lists, their spare room too.
func lists(e api.Expr) string {
	s := fmt.Sprint(e.Kind, e.Num, e.Text, e.Bool, e.Err, e.Refs[:cap(e.Refs)], "(")
	for _, kid := range e.Kids[:cap(e.Kids)] {
		s += lists(kid)
	}
	return s + ")"
}

// roomy is e with spare room behind each of its lists, full of marks.
func roomy(e api.Expr) api.Expr {
	refs := append(slices.Clone(e.Refs), api.Ref{Sheet: "mark"}, api.Ref{Row: 77})
	kids := append(slices.Clone(e.Kids), num(77), num(78))
	for i, kid := range e.Kids {
		kids[i] = roomy(kid)
	}
	e.Refs, e.Kids = refs[:len(e.Refs)], kids[:len(e.Kids)]
	return e
}

func TestWhatIsHandedInStays(t *testing.T) {
	d := dice(3)
	small := leaves(t)
	room := []api.Value{val("1"), val("x"), val("-3"), val(""), val("mark"), val("#N/A"), {Kind: 9}}
	before := slices.Clone(room)
	env := fixed{val("5"), room[1:4], true}
	for range 500 {
		e := roomy(d.tree(small, 60, 50))
		was := lists(e)
		first := Eval(e, here, env)
		if again := Eval(e, here, env); again != first {
			t.Fatalf("P0.5: %s, and then %s", told(first), told(again))
		}
		if lists(e) != was {
			t.Fatalf("P0.3: a tree is changed")
		}
		if !slices.Equal(room, before) {
			t.Fatalf("P0.3: the env's list is changed")
		}
	}
}

// Texts of an answer are no pieces of the tree's or of the env's.
func TestTextsAreNewMemory(t *testing.T) {
	room := []byte("abc")
	s := unsafe.String(&room[0], len(room))
	env := fixed{api.Value{Kind: api.VText, Text: s}, nil, true}
	tree := api.Expr{Kind: api.XText, Text: s}
	var got []api.Value
	for _, e := range []api.Expr{tree, formula(t, "A1"), formula(t, "IF(TRUE,A1)"), call("IF", num(1), tree), call("CONCAT", tree), bin(tree, "&", formula(t, `""`))} {
		got = append(got, Eval(e, here, env))
	}
	copy(room, "xyz")
	for i, v := range got {
		if v != val("abc") {
			t.Errorf("P0.3: the text of answer %d is %q", i, v.Text)
		}
	}
}

// What the operators and functions answer is builtin's answer, whatever the values.
func TestOperatorsAndCallsAreOfBuiltin(t *testing.T) {
	values := append(barred(), val(""), val("0"), val("-2.5"), val("922337203685477.5807"), val("x"), val("'3"), val("'"), val("TRUE"), val("FALSE"), val("#REF!"), val("#VALUE!"), val("#N/A"))
	for _, v := range values {
		for _, w := range values {
			b := of()
			b.put("A1", v)
			b.put("B2", w)
			for _, op := range operators() {
				if got, want := Eval(formula(t, "A1"+op+"B2"), here, b), builtin.Binary(op, v, w); got != want {
					t.Errorf("P13.1: %s %s %s: %s; want %s", told(v), op, told(w), told(got), told(want))
				}
			}
			for _, name := range names() {
				args := []builtin.Arg{{Values: []api.Value{v}}, {Values: []api.Value{w}}, {Range: true, Values: []api.Value{v, w}}}
				if got, want := Eval(formula(t, name+"(A1,B2)"), here, b), builtin.Call(name, args[:2]...); got != want {
					t.Errorf("P13.1: %s of %s and %s: %s; want %s", name, told(v), told(w), told(got), told(want))
				}
				if got, want := Eval(formula(t, name+"(A2:B1)"), here, b), builtin.Call(name, args[2]); got != want {
					t.Errorf("P13.1: %s of a range of %s and %s: %s; want %s", name, told(v), told(w), told(got), told(want))
				}
			}
		}
		b := of()
		b.put("A1", v)
		if got, want := Eval(formula(t, "-A1"), here, b), builtin.Neg(v); got != want {
			t.Errorf("P13.1: - of %s: %s; want %s", told(v), told(got), told(want))
		}
	}
}
