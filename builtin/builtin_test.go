package builtin

import (
	"fmt"
	"math"
	"slices"
	"strings"
	"testing"

	"counterpane/api"
	"counterpane/show"
	"counterpane/value"
)

const most, lowest = api.Fix(math.MaxInt64), api.Fix(math.MinInt64)

// allNames are the functions that there are.
func allNames() []string {
	return []string{"SUM", "MIN", "MAX", "COUNT", "AVERAGE", "IF", "AND", "OR", "NOT", "ABS", "LEN", "CONCAT", "ISERROR", "NA"}
}

func aggregates() []string { return []string{"SUM", "MIN", "MAX", "COUNT", "AVERAGE"} }

// ofOne are the functions that take just one single value.
func ofOne() []string { return []string{"NOT", "ABS", "LEN", "ISERROR"} }

// val is the value that one gets who writes s into a cell.
func val(s string) api.Value {
	c, err := show.Read(s)
	if err != api.OK || c.Formula {
		panic("the test's own value " + s + " is none")
	}
	return c.Value
}

func vals(list ...string) []api.Value {
	var vs []api.Value
	for _, s := range list {
		vs = append(vs, val(s))
	}
	return vs
}

func one(s string) Arg           { return Arg{Values: vals(s)} }
func many(list ...string) Arg    { return Arg{Range: true, Values: vals(list...)} }
func just(vs ...api.Value) Arg   { return Arg{Values: vs} }
func ranged(vs ...api.Value) Arg { return Arg{Range: true, Values: vs} }

func each(list ...string) []Arg {
	var args []Arg
	for _, s := range list {
		args = append(args, one(s))
	}
	return args
}

func letters(n int) string { return strings.Repeat("a", n) }

// told is v as a failure tells it, whatever its bytes and its length.
func told(v any) string { return fmt.Sprintf("%.200q", fmt.Sprint(v)) }

// barred are values that may not be; each kind of them has one that would count if it were taken as it looks.
func barred() []api.Value {
	return []api.Value{
		{Kind: 9}, {Kind: -1}, {Kind: 5, Err: 1}, {Kind: math.MinInt64}, {Kind: math.MaxInt64},
		{Num: 10000}, {Text: "a"}, {Bool: true}, {Err: 1},
		{Kind: api.VNumber, Num: 70000, Err: 1}, {Kind: api.VNumber, Num: 70000, Bool: true}, {Kind: api.VNumber, Text: "1"},
		{Kind: api.VText, Text: letters(201)}, {Kind: api.VText, Text: "\xff"}, {Kind: api.VText, Text: "TRUE", Bool: true},
		{Kind: api.VBool, Bool: true, Num: 10000}, {Kind: api.VBool, Err: 2},
		{Kind: api.VError}, {Kind: api.VError, Err: 8}, {Kind: api.VError, Err: -1}, {Kind: api.VError, Err: 1, Num: 1}, {Kind: api.VError, Err: 7, Text: "#N/A"},
	}
}

type callCase struct {
	name string
	args []Arg
	want string
}

// want is written as a cell shows it, so that an empty one is a blank and ' the empty text.
func checkCalls(t *testing.T, list []callCase) {
	t.Helper()
	for k, x := range list {
		if got := Call(x.name, x.args...); got != val(x.want) {
			t.Errorf("P12.1: case %d, %s of %s: %s; want %s", k, x.name, told(x.args), told(got), told(val(x.want)))
		}
	}
}

func TestSum(t *testing.T) {
	checkCalls(t, []callCase{
		{"SUM", each("1"), "1"}, {"SUM", each("1.5", "-0.25", "3"), "4.25"},
		{"SUM", []Arg{many("1", "2", "3.0001")}, "6.0001"}, {"SUM", []Arg{many("1", "2"), one("10"), many("100")}, "113"},
		{"SUM", []Arg{many("1", "'2", "x", "TRUE", "FALSE", "", "4")}, "5"},
		{"SUM", each("'2"), "0"}, {"SUM", each("TRUE"), "0"}, {"SUM", each(""), "0"}, {"SUM", each("x", "2"), "2"},
		{"SUM", []Arg{just(vals("1", "2", "4")...)}, "7"},
		{"SUM", nil, "0"}, {"SUM", []Arg{{}}, "0"}, {"SUM", []Arg{many()}, "0"}, {"SUM", []Arg{{}, many(), many("x"), one("3"), {}}, "3"},
	})
}

func TestSumBeyond(t *testing.T) {
	const top, bottom = "922337203685477.5807", "-922337203685477.5808"
	checkCalls(t, []callCase{
		{"SUM", each(top), top}, {"SUM", each(bottom), bottom},
		{"SUM", each(top, "0.0001"), "#NUM!"}, {"SUM", each(bottom, "-0.0001"), "#NUM!"},
		{"SUM", []Arg{many(top, top)}, "#NUM!"}, {"SUM", []Arg{many(bottom, bottom)}, "#NUM!"},
		{"SUM", []Arg{many(top, top, bottom, bottom)}, "-0.0002"}, {"SUM", []Arg{many(top, "0.0001", "-0.0001")}, top},
		{"SUM", []Arg{many(bottom, "-1"), one("1")}, bottom}, {"SUM", []Arg{one(top), one(top), many(bottom), one("-5")}, "922337203685472.5806"},
		{"SUM", []Arg{many(top, top), one("#REF!")}, "#REF!"}, {"SUM", []Arg{many(top, top), one("#N/A")}, "#N/A"},
		{"AVERAGE", each(top, "0.0001"), "#NUM!"}, {"AVERAGE", each(bottom, bottom), "#NUM!"}, {"AVERAGE", each(top, top, bottom), "307445734561825.8602"},
		{"AVERAGE", []Arg{many(top, "1", "-1")}, "307445734561825.8602"}, {"AVERAGE", each(bottom), bottom},
		{"MIN", each(top, bottom), bottom}, {"MAX", each(top, bottom), top}, {"COUNT", each(top, top, top), "3"},
	})
}

func TestMinMaxCount(t *testing.T) {
	checkCalls(t, []callCase{
		{"MIN", each("2"), "2"}, {"MIN", each("2", "-1.5", "7"), "-1.5"}, {"MIN", []Arg{many("3", "2", "9"), one("5")}, "2"}, {"MIN", []Arg{many("3"), many("x", "1")}, "1"},
		{"MIN", []Arg{many("5", "", "TRUE", "'1", "x")}, "5"}, {"MIN", each("1", "2", "3"), "1"}, {"MIN", each("3", "2", "1"), "1"},
		{"MAX", each("2"), "2"}, {"MAX", each("2", "-1.5", "7"), "7"}, {"MAX", []Arg{many("-3", "-2", "-9"), one("-5")}, "-2"}, {"MAX", []Arg{many("-3"), many("x", "-1")}, "-1"},
		{"MAX", []Arg{many("-5", "", "TRUE", "'1", "x")}, "-5"}, {"MAX", each("1", "2", "3"), "3"}, {"MAX", each("3", "2", "1"), "3"},
		{"COUNT", each("2"), "1"}, {"COUNT", each("2", "2", "0", "-1"), "4"}, {"COUNT", []Arg{many("1", "2", "x", "TRUE", "'3", ""), one("4"), one("")}, "3"},
		{"MIN", nil, "0"}, {"MAX", nil, "0"}, {"COUNT", nil, "0"},
		{"MIN", []Arg{many("x", "TRUE"), one("")}, "0"}, {"MAX", []Arg{many("x", "TRUE"), one("")}, "0"}, {"COUNT", []Arg{many("x", "TRUE"), one("")}, "0"},
		{"MIN", []Arg{{}, many()}, "0"}, {"MAX", []Arg{{}, many()}, "0"}, {"COUNT", []Arg{{}, many()}, "0"},
	})
}

func TestAverage(t *testing.T) {
	checkCalls(t, []callCase{
		{"AVERAGE", each("3"), "3"}, {"AVERAGE", each("1", "2"), "1.5"}, {"AVERAGE", []Arg{many("1", "2", "x", "TRUE"), one("6"), one("")}, "3"},
		{"AVERAGE", each("1", "0", "0"), "0.3333"}, {"AVERAGE", each("-1", "0", "0"), "-0.3333"}, {"AVERAGE", each("2", "0", "0"), "0.6666"}, {"AVERAGE", each("-2", "0", "0"), "-0.6666"},
		{"AVERAGE", each("0.0001", "0"), "0"}, {"AVERAGE", each("-0.0001", "0"), "0"}, {"AVERAGE", each("0"), "0"},
		{"AVERAGE", nil, "#DIV/0!"}, {"AVERAGE", []Arg{{}}, "#DIV/0!"}, {"AVERAGE", []Arg{many()}, "#DIV/0!"}, {"AVERAGE", []Arg{many("x", "TRUE", "'1"), one("")}, "#DIV/0!"},
		{"AVERAGE", each("x", "#N/A"), "#N/A"},
	})
}

func TestAggregatesOfErrors(t *testing.T) {
	for _, name := range aggregates() {
		checkCalls(t, []callCase{
			{name, each("#N/A"), "#N/A"}, {name, []Arg{many("1", "#NUM!", "x")}, "#NUM!"}, {name, []Arg{many("#NUM!", "#DIV/0!", "#N/A")}, "#DIV/0!"},
			{name, []Arg{many("1", "#NUM!"), one("#CYCLE!")}, "#CYCLE!"}, {name, []Arg{one("#CYCLE!"), many("1", "#NUM!")}, "#CYCLE!"},
			{name, []Arg{just(vals("1", "#REF!")...), many("#NAME?", "#VALUE!")}, "#REF!"}, {name, each("'#REF!", "#NAME?", "1"), "#NAME?"},
		})
		for err := 1; err <= 7; err++ {
			if got := Call(name, one("1"), ranged(val("x"), failure(err))); got != failure(err) {
				t.Errorf("P12.1: %s of the error %d: %s", name, err, told(got))
			}
		}
	}
}

// Values that may not be are passed over: neither errors, nor numbers.
func TestAggregatesOfBarred(t *testing.T) {
	for k, v := range barred() {
		checkCalls(t, []callCase{
			{"SUM", []Arg{just(v), one("2"), ranged(v, val("3"), v)}, "5"}, {"MIN", []Arg{just(v), one("8")}, "8"}, {"MAX", []Arg{ranged(val("-2"), v)}, "-2"},
			{"COUNT", []Arg{ranged(v, v, val("1"))}, "1"}, {"AVERAGE", []Arg{ranged(v, val("3"), val("4"))}, "3.5"},
			{"SUM", []Arg{just(v)}, "0"}, {"MIN", []Arg{just(v)}, "0"}, {"MAX", []Arg{just(v)}, "0"}, {"COUNT", []Arg{just(v)}, "0"}, {"AVERAGE", []Arg{just(v)}, "#DIV/0!"},
			{"SUM", []Arg{just(v), one("#N/A")}, "#N/A"}, {"COUNT", []Arg{ranged(v, val("#N/A"), v)}, "#N/A"},
		})
		if t.Failed() {
			t.Fatalf("P12.1: aggregates of value %d, %s", k, told(v))
		}
	}
}

func TestIf(t *testing.T) {
	checkCalls(t, []callCase{
		{"IF", each("TRUE", "a", "b"), "a"}, {"IF", each("FALSE", "a", "b"), "b"}, {"IF", each("2", "a", "b"), "a"}, {"IF", each("-0.0001", "a", "b"), "a"}, {"IF", each("0", "a", "b"), "b"},
		{"IF", each("", "a", "b"), "b"}, {"IF", each("'TRUE", "a", "b"), "a"}, {"IF", each("'FALSE", "a", "b"), "b"},
		{"IF", each("TRUE", "a"), "a"}, {"IF", each("FALSE", "a"), "FALSE"}, {"IF", each("", "a"), "FALSE"},
		{"IF", each("TRUE", "", "b"), ""}, {"IF", each("FALSE", "a", ""), ""}, {"IF", each("TRUE", "'1", "b"), "'1"}, {"IF", each("TRUE", "1.5"), "1.5"}, {"IF", each("FALSE", "a", "TRUE"), "TRUE"}, {"IF", each("TRUE", "'"), "'"},
		{"IF", each("TRUE", "a", "#REF!"), "a"}, {"IF", each("FALSE", "#REF!", "b"), "b"}, {"IF", each("FALSE", "#REF!"), "FALSE"},
		{"IF", each("TRUE", "#N/A", "#REF!"), "#N/A"}, {"IF", each("FALSE", "#REF!", "#N/A"), "#N/A"}, {"IF", each("TRUE", "#CYCLE!"), "#CYCLE!"},
		{"IF", each("#N/A", "#REF!", "#REF!"), "#N/A"}, {"IF", each("#N/A", "a"), "#N/A"}, {"IF", each("#REF!", "a", "#N/A"), "#REF!"},
		{"IF", each("x", "a", "b"), "#VALUE!"}, {"IF", each("x", "#REF!", "#REF!"), "#VALUE!"}, {"IF", each("'1", "a"), "#VALUE!"}, {"IF", each("'true", "a"), "#VALUE!"}, {"IF", each("'", "a"), "#VALUE!"},
	})
	for _, v := range barred() {
		checkCalls(t, []callCase{
			{"IF", []Arg{just(v), one("a"), one("b")}, "#VALUE!"}, {"IF", []Arg{just(v), one("#REF!"), one("#REF!")}, "#VALUE!"},
			{"IF", []Arg{one("TRUE"), just(v), one("b")}, "#VALUE!"}, {"IF", []Arg{one("FALSE"), one("a"), just(v)}, "#VALUE!"}, {"IF", []Arg{one("TRUE"), just(v)}, "#VALUE!"},
			{"IF", []Arg{one("TRUE"), one("a"), just(v)}, "a"}, {"IF", []Arg{one("FALSE"), just(v), one("b")}, "b"}, {"IF", []Arg{one("FALSE"), just(v)}, "FALSE"},
		})
	}
}

func TestAndOrNot(t *testing.T) {
	checkCalls(t, []callCase{
		{"AND", each("TRUE"), "TRUE"}, {"AND", each("FALSE"), "FALSE"}, {"AND", each("TRUE", "1", "'TRUE", "-2"), "TRUE"}, {"AND", each("TRUE", "0"), "FALSE"}, {"AND", each("", "TRUE"), "FALSE"}, {"AND", each("TRUE", "'FALSE", "TRUE"), "FALSE"},
		{"OR", each("TRUE"), "TRUE"}, {"OR", each("FALSE"), "FALSE"}, {"OR", each("FALSE", "0", "", "'FALSE"), "FALSE"}, {"OR", each("FALSE", "0.0001"), "TRUE"}, {"OR", each("'TRUE", "FALSE"), "TRUE"}, {"OR", each("FALSE", "TRUE", "FALSE"), "TRUE"},
		{"NOT", each("TRUE"), "FALSE"}, {"NOT", each("FALSE"), "TRUE"}, {"NOT", each("0"), "TRUE"}, {"NOT", each("2"), "FALSE"}, {"NOT", each(""), "TRUE"}, {"NOT", each("'TRUE"), "FALSE"}, {"NOT", each("'FALSE"), "TRUE"},
		{"NOT", each("x"), "#VALUE!"}, {"NOT", each("'0"), "#VALUE!"}, {"NOT", each("#NAME?"), "#NAME?"},
	})
	for _, name := range []string{"AND", "OR"} {
		checkCalls(t, []callCase{
			{name, each("TRUE", "FALSE", "x"), "#VALUE!"}, {name, each("x", "TRUE", "FALSE"), "#VALUE!"}, {name, each("'", "TRUE"), "#VALUE!"},
			{name, each("TRUE", "FALSE", "#NUM!"), "#NUM!"}, {name, each("#NUM!", "TRUE", "#DIV/0!", "FALSE", "#N/A"), "#DIV/0!"},
			{name, each("x", "#DIV/0!"), "#DIV/0!"}, {name, each("#DIV/0!", "x"), "#DIV/0!"}, {name, each("x", "#N/A"), "#VALUE!"}, {name, each("#N/A", "x"), "#VALUE!"},
			{name, nil, "#VALUE!"},
		})
	}
}

// A text that is no truth counts as #VALUE! among the errors beside it: of all of them the least is the answer, wherever it stands.
func TestLeastErrorOfTruths(t *testing.T) {
	for _, name := range []string{"AND", "OR"} {
		for _, none := range append(vals("x", "'", "'=A1", "'true", "'0", "'#REF!", letters(200)), barred()...) {
			for err := 1; err <= 7; err++ {
				want := failure(min(err, api.EValue))
				for k, vs := range [][]api.Value{
					{none, failure(err)}, {failure(err), none}, {none, failure(7), failure(err)}, {failure(err), failure(7), none},
					{truth(true), truth(false), none, {}, failure(err), none}, {failure(err), truth(false), truth(true), none, truth(true)},
				} {
					var args []Arg
					for _, v := range vs {
						args = append(args, just(v))
					}
					if got := Call(name, args...); got != want {
						t.Errorf("P12.1: case %d, %s of %s: %s; want %s", k, name, told(args), told(got), told(want))
					}
				}
			}
		}
	}
}

func TestAbsLen(t *testing.T) {
	checkCalls(t, []callCase{
		{"ABS", each("-1.5"), "1.5"}, {"ABS", each("1.5"), "1.5"}, {"ABS", each("0"), "0"}, {"ABS", each("-0.0001"), "0.0001"}, {"ABS", each("0.0001"), "0.0001"}, {"ABS", each(""), "0"}, {"ABS", each("TRUE"), "1"}, {"ABS", each("'-2"), "2"},
		{"ABS", each("-922337203685477.5808"), "#NUM!"}, {"ABS", each("'-922337203685477.5808"), "#NUM!"}, {"ABS", each("-922337203685477.5807"), "922337203685477.5807"}, {"ABS", each("922337203685477.5807"), "922337203685477.5807"},
		{"ABS", each("x"), "#VALUE!"}, {"ABS", each("'"), "#VALUE!"}, {"ABS", each("'TRUE"), "#VALUE!"}, {"ABS", each("#N/A"), "#N/A"},
		{"LEN", each("abc"), "3"}, {"LEN", each("é"), "2"}, {"LEN", each("'"), "0"}, {"LEN", each(""), "0"}, {"LEN", each("-1.50"), "4"}, {"LEN", each("'-1.50"), "5"}, {"LEN", each("TRUE"), "4"}, {"LEN", each("FALSE"), "5"},
		{"LEN", each(letters(200)), "200"}, {"LEN", each("\U0010ffff a"), "6"}, {"LEN", each("#N/A"), "#N/A"}, {"LEN", each("'#N/A"), "4"}, {"LEN", each("-922337203685477.5808"), "21"},
	})
}

func TestConcat(t *testing.T) {
	checkCalls(t, []callCase{
		{"CONCAT", nil, "'"}, {"CONCAT", each(""), "'"}, {"CONCAT", each("a"), "a"}, {"CONCAT", each("a", "b", "", "c"), "abc"}, {"CONCAT", each("b", "a"), "ba"},
		{"CONCAT", each("1.50", "'1.50", "TRUE", "FALSE", "é"), "1.51.50TRUEFALSEé"}, {"CONCAT", each("1", "2"), "'12"}, {"CONCAT", each("TR", "UE"), "'TRUE"},
		{"CONCAT", each(letters(200)), letters(200)}, {"CONCAT", each(letters(199), "b"), letters(199) + "b"}, {"CONCAT", each(letters(200), "", "'"), letters(200)},
		{"CONCAT", each(letters(200), "b"), "#VALUE!"}, {"CONCAT", each("1", letters(200)), "#VALUE!"}, {"CONCAT", each(letters(199), "é"), "#VALUE!"}, {"CONCAT", each(letters(200), letters(200), letters(200)), "#VALUE!"},
		{"CONCAT", each(letters(200), "b", "#N/A"), "#N/A"}, {"CONCAT", each("#N/A", letters(200), "b"), "#N/A"}, {"CONCAT", each("a", "#N/A", "#REF!"), "#REF!"},
	})
	var args []Arg
	for range 200 {
		args = append(args, one("a"), one(""))
	}
	checkCalls(t, []callCase{{"CONCAT", args, letters(200)}, {"CONCAT", append(slices.Clone(args), one("a")), "#VALUE!"}})
}

func TestIsErrorNa(t *testing.T) {
	for err := 1; err <= 7; err++ {
		if got := Call("ISERROR", just(failure(err))); got != truth(true) {
			t.Errorf("P12.1: ISERROR of the error %d: %s", err, told(got))
		}
	}
	for _, s := range []string{"", "0", "1", "x", "'", "'#REF!", "TRUE", "FALSE", letters(200)} {
		if got := Call("ISERROR", one(s)); got != truth(false) {
			t.Errorf("P12.1: ISERROR of %q: %s", s, told(got))
		}
	}
	for _, v := range barred() {
		if got := Call("ISERROR", just(v)); got != truth(true) {
			t.Errorf("P12.1: ISERROR of %s, which may not be: %s", told(v), told(got))
		}
	}
	checkCalls(t, []callCase{{"NA", nil, "#N/A"}, {"NA", []Arg{}, "#N/A"}, {"NA", each("1"), "#VALUE!"}, {"NA", []Arg{{}}, "#VALUE!"}})
}

func TestSinglesOfBarred(t *testing.T) {
	for _, v := range barred() {
		for _, name := range []string{"AND", "OR", "NOT", "ABS", "LEN", "CONCAT"} {
			checkCalls(t, []callCase{{name, []Arg{just(v)}, "#VALUE!"}})
		}
		for _, name := range []string{"AND", "OR", "CONCAT"} {
			checkCalls(t, []callCase{
				{name, []Arg{one("TRUE"), just(v), one("FALSE")}, "#VALUE!"},
				{name, []Arg{just(v), one("#N/A")}, "#VALUE!"}, {name, []Arg{one("#NAME?"), just(v)}, "#VALUE!"}, {name, []Arg{just(v), one("#NUM!")}, "#NUM!"}, {name, []Arg{one("#REF!"), just(v)}, "#REF!"},
			})
		}
	}
}

func TestUnknownNames(t *testing.T) {
	for _, name := range []string{"", "NOPE", "sum", "Sum", "SUM ", " SUM", "SUMS", "SU", "TRUE", "FALSE", "S\x00M", "\xff", "+", "AVG", "LENGTH", "ISERR", "N/A", "#N/A", letters(100000), strings.Repeat("SUM", 50000)} {
		for _, args := range [][]Arg{nil, each("1"), each("#REF!", "1"), {many("#REF!", "1")}, {{}}, each("1", "1", "1", "1", "1")} {
			if got := Call(name, args...); got != failure(api.EName) {
				t.Errorf("P12.1: the unknown %s of %s: %s", told(name), told(args), told(got))
			}
		}
		if Known(name) {
			t.Errorf("P12.1: %s is known", told(name))
		}
	}
	for _, name := range allNames() {
		if !Known(name) || Call(name, one("1"), one("1")) == failure(api.EName) {
			t.Errorf("P12.1: %s is not known", name)
		}
		for _, other := range []string{strings.ToLower(name), name + "S", name + " ", " " + name, name[1:] + "Q", name + "\x00", name + "("} {
			if Known(other) {
				t.Errorf("P12.1: %q is known", other)
			}
		}
	}
}

func TestNumbersOfArguments(t *testing.T) {
	bounds := map[string][2]int{"IF": {2, 3}, "AND": {1, 40}, "OR": {1, 40}, "NOT": {1, 1}, "ABS": {1, 1}, "LEN": {1, 1}, "CONCAT": {0, 40}, "ISERROR": {1, 1}, "NA": {0, 0}}
	for _, name := range aggregates() {
		bounds[name] = [2]int{0, 40}
	}
	for _, name := range allNames() {
		for n := range 41 {
			// All of them are the error #REF!, which no wrong number of arguments gives; NA and ISERROR have answers of their own.
			var args []Arg
			for range n {
				args = append(args, one("#REF!"))
			}
			right := n >= bounds[name][0] && n <= bounds[name][1]
			if got := Call(name, args...); (got == failure(api.EValue)) == right {
				t.Errorf("P12.1: %s of %d: %s", name, n, told(got))
			}
		}
	}
}

// An error that is less than #VALUE! stands beside each wrong argument, so that the order shows.
func TestWrongCallsInTheirOrder(t *testing.T) {
	wrong := []Arg{many("1"), many("TRUE", "FALSE"), many("#REF!"), many(), {}, just(vals("TRUE", "TRUE")...), just(vals("#REF!", "#REF!")...), ranged(barred()...)}
	for _, arg := range wrong {
		for _, name := range ofOne() {
			checkCalls(t, []callCase{{name, []Arg{arg}, "#VALUE!"}, {name, []Arg{arg, one("#REF!")}, "#VALUE!"}})
		}
		for _, name := range []string{"AND", "OR", "CONCAT"} {
			checkCalls(t, []callCase{{name, []Arg{arg}, "#VALUE!"}, {name, []Arg{one("#REF!"), arg}, "#VALUE!"}, {name, []Arg{arg, one("#REF!"), one("TRUE")}, "#VALUE!"}})
		}
		checkCalls(t, []callCase{
			{"IF", []Arg{arg, one("a"), one("b")}, "#VALUE!"}, {"IF", []Arg{one("TRUE"), arg, one("b")}, "#VALUE!"}, {"IF", []Arg{one("TRUE"), one("a"), arg}, "#VALUE!"}, {"IF", []Arg{one("FALSE"), arg}, "#VALUE!"}, {"IF", []Arg{one("FALSE"), arg, one("b")}, "#VALUE!"},
			{"IF", []Arg{one("#REF!"), one("a"), arg}, "#VALUE!"}, {"IF", []Arg{one("TRUE"), one("#REF!"), arg}, "#VALUE!"}, {"NA", []Arg{arg}, "#VALUE!"}, {"NOPE", []Arg{arg}, "#NAME?"},
		})
	}
	checkCalls(t, []callCase{
		{"IF", nil, "#VALUE!"}, {"IF", each("#REF!"), "#VALUE!"}, {"IF", each("#REF!", "1", "1", "1"), "#VALUE!"}, {"NOT", nil, "#VALUE!"}, {"NOT", each("#REF!", "#REF!"), "#VALUE!"}, {"ABS", nil, "#VALUE!"}, {"ABS", each("#REF!", "#REF!"), "#VALUE!"},
		{"LEN", nil, "#VALUE!"}, {"LEN", each("#REF!", "#REF!"), "#VALUE!"}, {"ISERROR", nil, "#VALUE!"}, {"ISERROR", each("#REF!", "#REF!"), "#VALUE!"}, {"NA", each("#REF!"), "#VALUE!"},
	})
}

// copied shares no memory with args.
func copied(args []Arg) []Arg {
	var list []Arg
	for _, arg := range args {
		list = append(list, Arg{Range: arg.Range, Values: slices.Clone(arg.Values)})
	}
	return list
}

func sameArgs(a, b []Arg) bool {
	return slices.EqualFunc(a, b, func(x, y Arg) bool { return x.Range == y.Range && slices.Equal(x.Values, y.Values) })
}

func TestCallLeavesItsArguments(t *testing.T) {
	room := append(vals("3", "1", "x", "#N/A"), barred()...)
	for _, name := range allNames() {
		// What stands behind the lists is spare room, which stays as well.
		whole := []Arg{{Values: room[:1]}, {Values: room[1:2]}, {Values: room[2:3]}, {Range: true, Values: room[:4]}, {Values: room[4:6]}, {}}
		before, roomBefore := copied(whole), slices.Clone(room)
		for n := range len(whole) {
			first := Call(name, whole[:n]...)
			if again := Call(name, whole[:n]...); again != first {
				t.Errorf("P0.5: %s of %d: %s, and then %s", name, n, told(first), told(again))
			}
		}
		if !sameArgs(whole, before) || !slices.Equal(room, roomBefore) {
			t.Errorf("P0.3: %s changed what it was given", name)
		}
	}
}

func TestLongArguments(t *testing.T) {
	const count = 100000
	long := Arg{Range: true}
	var list []Arg
	for k := range count {
		long.Values = append(long.Values, number(api.Fix(k+1)*10000), val("x"))
		list = append(list, just(truth(k != count/2)))
	}
	checkCalls(t, []callCase{
		{"SUM", []Arg{long}, "5000050000"}, {"COUNT", []Arg{long, long}, "200000"}, {"MIN", []Arg{long}, "1"}, {"MAX", []Arg{long}, "100000"}, {"AVERAGE", []Arg{long}, "50000.5"},
		{"AND", list, "FALSE"}, {"OR", list, "TRUE"}, {"COUNT", list, "0"}, {"CONCAT", list, "#VALUE!"}, {"CONCAT", append(list, one("#N/A")), "#N/A"}, {"IF", list, "#VALUE!"}, {"NA", list, "#VALUE!"},
	})
}

func TestNilIsEmpty(t *testing.T) {
	for _, name := range allNames() {
		if a, b := Call(name), Call(name, []Arg{}...); a != b {
			t.Errorf("P0.4: %s of none: %s and %s", name, told(a), told(b))
		}
		for _, isRange := range []bool{false, true} {
			a, b := Call(name, Arg{Range: isRange}), Call(name, Arg{Range: isRange, Values: []api.Value{}})
			if a != b || !value.May(a) {
				t.Errorf("P0.4: %s of an empty argument: %s and %s", name, told(a), told(b))
			}
		}
	}
}
