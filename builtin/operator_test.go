package builtin

import (
	"strings"
	"testing"

	"counterpane/api"
	"counterpane/value"
)

func allOperators() []string {
	return []string{"+", "-", "*", "/", "&", "=", "<>", "<", "<=", ">", ">="}
}

func comparisons() []string { return []string{"=", "<>", "<", "<=", ">", ">="} }

func foreignOperators() []string {
	return []string{"", "^", "%", "==", "!=", "=<", "=>", "><", "<<", " +", "+ ", "++", "&&", "plus", ":", ",", "(", "\x00", "\xff", letters(100000), strings.Repeat("+", 100000)}
}

// binaryCase is a, an operator, b, and the answer.
type binaryCase [4]string

func checkBinaries(t *testing.T, list []binaryCase) {
	t.Helper()
	for k, x := range list {
		if got := Binary(x[1], val(x[0]), val(x[2])); got != val(x[3]) {
			t.Errorf("P12.2: case %d, %s: %s", k, told(x), told(got))
		}
	}
}

func TestArithmetic(t *testing.T) {
	checkBinaries(t, []binaryCase{
		{"1.5", "+", "2.25", "3.75"}, {"1.5", "-", "2.25", "-0.75"}, {"1.5", "*", "2.5", "3.75"}, {"3", "/", "1.5", "2"},
		{"'1.5", "+", "2", "3.5"}, {"2", "-", "'1.5", "0.5"}, {"'2", "*", "'3", "6"}, {"'3", "/", "'2", "1.5"},
		{"TRUE", "+", "TRUE", "2"}, {"5", "-", "TRUE", "4"}, {"FALSE", "*", "7", "0"}, {"TRUE", "/", "4", "0.25"},
		{"", "+", "2", "2"}, {"", "-", "2", "-2"}, {"2", "*", "", "0"}, {"", "/", "2", "0"}, {"", "+", "", "0"}, {"", "+", "TRUE", "1"}, {"'4", "-", "FALSE", "4"},
		{"1", "/", "3", "0.3333"}, {"-2", "/", "3", "-0.6666"}, {"0.0001", "*", "0.5", "0"}, {"-0.0001", "*", "0.9999", "0"},
		{"1", "/", "0", "#DIV/0!"}, {"0", "/", "0", "#DIV/0!"}, {"1", "/", "", "#DIV/0!"}, {"1", "/", "FALSE", "#DIV/0!"}, {"1", "/", "'0", "#DIV/0!"}, {"", "/", "", "#DIV/0!"}, {"-922337203685477.5808", "/", "0", "#DIV/0!"},
		{"922337203685477.5807", "+", "0.0001", "#NUM!"}, {"-922337203685477.5808", "-", "0.0001", "#NUM!"}, {"922337203685477", "*", "2", "#NUM!"}, {"922337203685477", "/", "0.5", "#NUM!"}, {"-922337203685477.5808", "/", "-1", "#NUM!"}, {"-922337203685477.5808", "*", "-1", "#NUM!"},
		{"0", "-", "-922337203685477.5808", "#NUM!"}, {"-0.0001", "-", "-922337203685477.5808", "922337203685477.5807"},
	})
	for _, op := range []string{"+", "-", "*", "/"} {
		checkBinaries(t, []binaryCase{
			{"x", op, "1", "#VALUE!"}, {"1", op, "x", "#VALUE!"}, {"x", op, "y", "#VALUE!"}, {"'", op, "1", "#VALUE!"}, {"1", op, "'", "#VALUE!"}, {"'TRUE", op, "1", "#VALUE!"}, {"1", op, "'FALSE", "#VALUE!"}, {"x", op, "0", "#VALUE!"}, {"x", op, "", "#VALUE!"}, {"", op, "x", "#VALUE!"},
			{"'922337203685477.5808", op, "1", "#VALUE!"}, {"'#REF!", op, "1", "#VALUE!"},
		})
	}
}

func TestJoin(t *testing.T) {
	checkBinaries(t, []binaryCase{
		{"a", "&", "b", "ab"}, {"b", "&", "a", "ba"}, {"1.50", "&", "TRUE", "1.5TRUE"}, {"FALSE", "&", "'1.50", "FALSE1.50"}, {"1", "&", "2", "'12"}, {"", "&", "", "'"}, {"", "&", "a", "a"}, {"a", "&", "", "a"}, {"'", "&", "-1", "'-1"}, {"é", "&", "é", "éé"}, {"'#REF", "&", "!", "'#REF!"},
		{letters(100), "&", letters(100), letters(200)}, {letters(200), "&", "", letters(200)}, {letters(200), "&", "b", "#VALUE!"}, {"b", "&", letters(200), "#VALUE!"}, {letters(199), "&", "é", "#VALUE!"}, {letters(199), "&", "1", letters(199) + "1"}, {letters(197), "&", "TRUE", "#VALUE!"}, {letters(200), "&", letters(200), "#VALUE!"},
	})
}

// holding are the comparisons that hold where order stands for a against b.
func holding(order int) string {
	return []string{"<> < <=", "= <= >=", "<> > >="}[order+1]
}

func checkOrder(t *testing.T, a, b api.Value, order int) {
	t.Helper()
	for _, op := range comparisons() {
		want := truth(strings.Contains(" "+holding(order)+" ", " "+op+" "))
		if got := Binary(op, a, b); got != want {
			t.Errorf("P12.2: %s %s %s: %s; want %s", told(a), op, told(b), told(got), told(want))
		}
	}
}

// Each value is ahead of the next: numbers, texts, truths.
func TestComparisonsInOrder(t *testing.T) {
	list := vals("-922337203685477.5808", "-1", "-0.0001", "0", "0.0001", "1", "10", "922337203685477.5807", "'", "'-1", "'0", "'10", "'9", "A", "'TRUE", "a", "aa", letters(200), "b", "é", "FALSE", "TRUE")
	for i, a := range list {
		for j, b := range list {
			checkOrder(t, a, b, min(max(i-j, -1), 1))
		}
	}
}

func TestComparisonsOfBlanks(t *testing.T) {
	checkOrder(t, api.Value{}, api.Value{}, 0)
	for _, x := range []struct {
		other string
		order int
	}{
		{"0", 0}, {"-0.0001", 1}, {"0.0001", -1}, {"-922337203685477.5808", 1}, {"922337203685477.5807", -1},
		{"'", 0}, {"'0", -1}, {"a", -1}, {"'FALSE", -1}, {"' ", -1}, {"FALSE", 0}, {"TRUE", -1},
	} {
		checkOrder(t, api.Value{}, val(x.other), x.order)
		checkOrder(t, val(x.other), api.Value{}, -x.order)
	}
}

func TestBinaryOfErrors(t *testing.T) {
	for _, op := range append(allOperators(), foreignOperators()...) {
		for m := 1; m <= 7; m++ {
			for _, b := range vals("", "0", "1", "x", "'", "TRUE", letters(200)) {
				if got, back := Binary(op, failure(m), b), Binary(op, b, failure(m)); got != failure(m) || back != failure(m) {
					t.Errorf("P12.2: the error %d under %s with %s: %s, the other way round %s", m, told(op), told(b), told(got), told(back))
				}
			}
			for n := 1; n <= 7; n++ {
				if got := Binary(op, failure(m), failure(n)); got != failure(min(m, n)) {
					t.Errorf("P12.2: the errors %d and %d under %s: %s", m, n, told(op), told(got))
				}
			}
		}
	}
}

func TestBinaryOfBarred(t *testing.T) {
	for _, op := range append(allOperators(), foreignOperators()...) {
		for _, v := range barred() {
			for _, b := range append(vals("", "0", "1", "x", "TRUE", "#VALUE!", "#NAME?", "#N/A"), v, api.Value{Kind: 9}) {
				if got, back := Binary(op, v, b), Binary(op, b, v); got != failure(api.EValue) || back != failure(api.EValue) {
					t.Errorf("P12.2: %s, which may not be, under %s with %s: %s, the other way round %s", told(v), told(op), told(b), told(got), told(back))
				}
			}
			for err := 1; err < api.EValue; err++ {
				if got, back := Binary(op, v, failure(err)), Binary(op, failure(err), v); got != failure(err) || back != failure(err) {
					t.Errorf("P12.2: %s, which may not be, under %s with the error %d: %s, the other way round %s", told(v), told(op), err, told(got), told(back))
				}
			}
		}
	}
}

func TestForeignOperators(t *testing.T) {
	for _, op := range foreignOperators() {
		for _, a := range vals("", "0", "1", "x", "'", "TRUE") {
			for _, b := range vals("", "0", "1", "x", "'", "TRUE") {
				if got := Binary(op, a, b); got != failure(api.EValue) {
					t.Errorf("P12.2: %s %s %s: %s", told(a), told(op), told(b), told(got))
				}
			}
		}
	}
}

func TestNeg(t *testing.T) {
	for s, want := range map[string]string{
		"1.5": "-1.5", "-1.5": "1.5", "0": "0", "": "0", "TRUE": "-1", "FALSE": "0", "'-2": "2", "'2.50": "-2.5",
		"922337203685477.5807": "-922337203685477.5807", "-922337203685477.5807": "922337203685477.5807", "-922337203685477.5808": "#NUM!", "'-922337203685477.5808": "#NUM!",
		"x": "#VALUE!", "'": "#VALUE!", "'TRUE": "#VALUE!", "#REF!": "#REF!", "#VALUE!": "#VALUE!", "#N/A": "#N/A",
	} {
		if got := Neg(val(s)); got != val(want) {
			t.Errorf("P12.2: Neg of %q: %s; want %s", s, told(got), want)
		}
	}
	for _, v := range barred() {
		if got := Neg(v); got != failure(api.EValue) {
			t.Errorf("P12.2: Neg of %s, which may not be: %s", told(v), told(got))
		}
	}
}

// Whatever stands on the two sides, the answer is a value that may be, and the same again.
func TestBinaryAnswersMayBe(t *testing.T) {
	list := append(vals("", "0", "1", "-922337203685477.5808", "x", "'", "'1", "TRUE", "FALSE", letters(200), "#REF!", "#N/A"), barred()...)
	for _, op := range append(allOperators(), "", "^") {
		for _, a := range list {
			for _, b := range list {
				got := Binary(op, a, b)
				if !value.May(got) || got.Kind == api.VBlank {
					t.Errorf("P12.2: %s %s %s: %s", told(a), op, told(b), told(got))
				}
				if again := Binary(op, a, b); again != got {
					t.Errorf("P0.5: %s %s %s: %s, and then %s", told(a), op, told(b), told(got), told(again))
				}
			}
		}
	}
}
