package value

import (
	"fmt"
	"math"
	"slices"
	"strings"
	"testing"

	"counterpane/api"
	"counterpane/fixnum"
)

func number(n api.Fix) api.Value  { return api.Value{Kind: api.VNumber, Num: n} }
func text(s string) api.Value     { return api.Value{Kind: api.VText, Text: s} }
func truth(b bool) api.Value      { return api.Value{Kind: api.VBool, Bool: b} }
func failure(err int) api.Value   { return api.Value{Kind: api.VError, Err: err} }
func letters(count int) api.Value { return text(strings.Repeat("a", count)) }

// told is v as a failure tells it, whatever its bytes and its length.
func told(v api.Value) string { return fmt.Sprintf("%.60q", fmt.Sprint(v)) }

// ordered are values that may be, each ahead of the next.
func ordered() []api.Value {
	return []api.Value{
		{},
		number(math.MinInt64), number(-10001), number(-10000), number(-1), number(0), number(1), number(15000), number(math.MaxInt64),
		text(""), text("\x00"), text("-1"), text("1.5"), text("10"), text("9"), text("A"), text("FALSE"), text("TRUE"), text("TRUE "),
		text("a"), text("a\x00"), text("aa"), letters(199), letters(200), text("b"), text("é"), text("\ufffd"), text("\U0010ffff"),
		truth(false), truth(true),
		failure(1), failure(2), failure(3), failure(4), failure(5), failure(6), failure(7),
	}
}

// barred are values that may not be.
func barred() []api.Value {
	return []api.Value{
		letters(201), letters(100000), text(strings.Repeat("é", 100) + "a"), text("\xff"), text("a\xc3"), text("\xed\xa0\x80"), text("\xc0\x80"), text("\xf4\x90\x80\x80"),
		failure(0), failure(8), failure(9), failure(-1), failure(math.MinInt64), failure(math.MaxInt64),
		{Kind: 5}, {Kind: 9}, {Kind: -1}, {Kind: math.MinInt64}, {Kind: math.MaxInt64}, {Kind: 5, Num: 1, Text: "a", Bool: true, Err: 1},
		{Num: 1}, {Text: "a"}, {Bool: true}, {Err: 1}, {Err: -1},
		{Kind: api.VNumber, Text: "1"}, {Kind: api.VNumber, Bool: true}, {Kind: api.VNumber, Num: 1, Err: 1},
		{Kind: api.VText, Num: -1}, {Kind: api.VText, Text: "TRUE", Bool: true}, {Kind: api.VText, Text: "a", Err: 8},
		{Kind: api.VBool, Bool: true, Num: 10000}, {Kind: api.VBool, Text: "FALSE"}, {Kind: api.VBool, Err: 1},
		{Kind: api.VError, Err: 1, Num: 1}, {Kind: api.VError, Err: 1, Text: "#REF!"}, {Kind: api.VError, Err: 7, Bool: true},
	}
}

func TestMay(t *testing.T) {
	for k, v := range ordered() {
		if !May(v) {
			t.Errorf("Words: value %d, %s, may not be", k, told(v))
		}
	}
	for k, v := range barred() {
		if May(v) {
			t.Errorf("Words: value %d, %s, may be", k, told(v))
		}
	}
	if !May(text(strings.Repeat("é", 100))) {
		t.Error("Words: a text of 200 bytes of UTF-8 may not be")
	}
}

// taken is what a value is as a number, a text and a truth, an error behind each.
type taken struct {
	number    api.Fix
	numberErr int
	text      string
	textErr   int
	truth     bool
	truthErr  int
}

func take(v api.Value) taken {
	var got taken
	got.number, got.numberErr = Number(v)
	got.text, got.textErr = Text(v)
	got.truth, got.truthErr = Truth(v)
	return got
}

func TestBlankNumbersTruthsTaken(t *testing.T) {
	for _, x := range []struct {
		v    api.Value
		want taken
	}{
		{api.Value{}, taken{}},
		{number(0), taken{text: "0"}},
		{number(1), taken{number: 1, text: "0.0001", truth: true}},
		{number(-15000), taken{number: -15000, text: "-1.5", truth: true}},
		{number(math.MaxInt64), taken{number: math.MaxInt64, text: "922337203685477.5807", truth: true}},
		{number(math.MinInt64), taken{number: math.MinInt64, text: "-922337203685477.5808", truth: true}},
		{truth(false), taken{text: "FALSE"}},
		{truth(true), taken{number: 10000, text: "TRUE", truth: true}},
	} {
		if got := take(x.v); got != x.want {
			t.Errorf("P2.1: %s: %+v; want %+v", told(x.v), got, x.want)
		}
	}
}

func TestTextsTaken(t *testing.T) {
	for _, x := range []struct {
		text   string
		number api.Fix
		isOne  bool
	}{
		{"0", 0, true}, {"1.5", 15000, true}, {"-1.5", -15000, true}, {"0.0001", 1, true}, {"1.50", 15000, true},
		{"922337203685477.5807", math.MaxInt64, true}, {"-922337203685477.5808", math.MinInt64, true},
		{"922337203685477.5808", 0, false}, {"-922337203685477.5809", 0, false}, {strings.Repeat("9", 200), 0, false},
		{"", 0, false}, {" 1", 0, false}, {"1 ", 0, false}, {"+1", 0, false}, {"01", 0, false}, {"1.", 0, false}, {".5", 0, false},
		{"1.00000", 0, false}, {"1e3", 0, false}, {"a", 0, false}, {"é", 0, false}, {"#REF!", 0, false},
		{"true", 0, false}, {"false", 0, false}, {"True", 0, false}, {"TRUE ", 0, false}, {" FALSE", 0, false}, {"TRU", 0, false},
	} {
		want := taken{number: x.number, text: x.text, truthErr: api.EValue}
		if !x.isOne {
			want.numberErr = api.EValue
		}
		if got := take(text(x.text)); got != want {
			t.Errorf("P2.1: the text %q: %+v; want %+v", x.text, got, want)
		}
	}
	if got, want := take(text("TRUE")), (taken{numberErr: api.EValue, text: "TRUE", truth: true}); got != want {
		t.Errorf("P2.1: the text TRUE: %+v; want %+v", got, want)
	}
	if got, want := take(text("FALSE")), (taken{numberErr: api.EValue, text: "FALSE"}); got != want {
		t.Errorf("P2.1: the text FALSE: %+v; want %+v", got, want)
	}
}

func TestErrorsTaken(t *testing.T) {
	for err := 1; err <= 7; err++ {
		want := taken{numberErr: err, textErr: err, truthErr: err}
		if got := take(failure(err)); got != want {
			t.Errorf("P2.1: the error %d: %+v; want %+v", err, got, want)
		}
	}
	want := taken{numberErr: api.EValue, textErr: api.EValue, truthErr: api.EValue}
	for k, v := range barred() {
		if got := take(v); got != want {
			t.Errorf("P2.1: value %d, %s, which may not be: %+v; want %+v", k, told(v), got, want)
		}
	}
}

// A number as a text is that number again.
func TestNumberOfText(t *testing.T) {
	for n := api.Fix(-30000); n <= 30000; n += 7 {
		printed, err := Text(number(n))
		if err != 0 || printed != fixnum.Print(n) {
			t.Fatalf("P2.1: %d as a text: %q, %d", n, printed, err)
		}
		if got, err := Number(text(printed)); got != n || err != 0 {
			t.Fatalf("P2.1: %q as a number: %d, %d", printed, got, err)
		}
	}
}

func TestCompareInOrder(t *testing.T) {
	list := ordered()
	for i, a := range list {
		for j, b := range list {
			want := 0
			if i < j {
				want = -1
			} else if i > j {
				want = 1
			}
			if got := Compare(a, b); got != want {
				t.Errorf("P2.2: Compare of %s and %s: %d; want %d", told(a), told(b), got, want)
			}
		}
	}
}

func TestCompareBarred(t *testing.T) {
	for _, a := range barred() {
		for _, b := range barred() {
			if got := Compare(a, b); got != 0 {
				t.Errorf("P2.2: Compare of %s and %s, which both may not be: %d", told(a), told(b), got)
			}
		}
		for _, b := range ordered() {
			if got, back := Compare(a, b), Compare(b, a); got != 1 || back != -1 {
				t.Errorf("P2.2: Compare of %s, which may not be, and %s: %d, and the other way round %d", told(a), told(b), got, back)
			}
		}
	}
}

func TestWorst(t *testing.T) {
	for k, x := range []struct {
		list []api.Value
		want int
	}{
		{nil, 0}, {[]api.Value{}, 0}, {[]api.Value{{}}, 0}, {[]api.Value{number(1), text("#REF!"), truth(true)}, 0},
		{[]api.Value{failure(7)}, 7}, {[]api.Value{failure(1)}, 1},
		{[]api.Value{failure(4), failure(2), failure(6)}, 2}, {[]api.Value{failure(2), failure(4)}, 2}, {[]api.Value{failure(4), failure(2)}, 2},
		{[]api.Value{number(1), failure(5), {}, failure(5), text("a")}, 5},
		{barred(), 0}, {append(barred(), failure(6)), 6}, {ordered(), 1},
		{[]api.Value{{Kind: api.VNumber, Err: 1}, failure(3), {Kind: api.VError, Err: 2, Num: 1}}, 3},
	} {
		kept := slices.Clone(x.list)
		if got := Worst(x.list...); got != x.want {
			t.Errorf("P2.2: Worst of list %d: %d; want %d", k, got, x.want)
		}
		if !slices.Equal(kept, x.list) {
			t.Errorf("P0.3: Worst changed list %d", k)
		}
	}
}

func TestName(t *testing.T) {
	for err, want := range map[int]string{
		1: "#REF!", 2: "#CYCLE!", 3: "#DIV/0!", 4: "#NUM!", 5: "#VALUE!", 6: "#NAME?", 7: "#N/A",
		0: "", 8: "", -1: "", math.MinInt64: "", math.MaxInt64: "",
	} {
		if got := Name(err); got != want {
			t.Errorf("P2.2: Name(%d): %q; want %q", err, got, want)
		}
	}
}

func TestEq(t *testing.T) {
	list := append(ordered(), barred()...)
	for i, a := range list {
		for j, b := range list {
			if got := Eq(a, b); got != (i == j) {
				t.Errorf("P2.2: Eq of %s and %s: %v", told(a), told(b), got)
			}
		}
	}
	if !Eq(text(strings.Repeat("ab", 2)), text("ab"+strings.ToLower("AB"))) {
		t.Error("P2.2: texts of the same bytes are not the same")
	}
}
