package fixnum

import (
	"math"
	"math/big"
	"regexp"
	"slices"
	"strings"
	"testing"

	"counterpane/api"
)

const most, least = api.Fix(math.MaxInt64), api.Fix(math.MinInt64)

// edges are numbers near which a result is cut, changes its sign or goes beyond.
func edges() []api.Fix {
	var list []api.Fix
	for _, middle := range []api.Fix{0, 3333, 5000, 10000, 15000, 20000, 30000, 100000000, 303700049997, 3037000499976, 1 << 32, 1 << 53, most / 30000, most / 20000, most / 10000, most / 2, most - 1, most - 10000} {
		for step := api.Fix(-1); step <= 1; step++ {
			list = append(list, middle+step, -(middle + step))
		}
	}
	return append(list, least, least+1, least+9999, least+10000)
}

// scattered are numbers of all sizes, by a fixed rule, so that a failure comes again.
func scattered(count int) []api.Fix {
	var list []api.Fix
	state := uint64(88172645463325252)
	for k := range count {
		state ^= state << 13
		state ^= state >> 7
		state ^= state << 17
		list = append(list, api.Fix(int64(state)>>(k%64)))
	}
	return list
}

func bigFix(a api.Fix) *big.Int { return big.NewInt(int64(a)) }

// checkBig holds an answer against a calculation that has room for everything.
func checkBig(t *testing.T, what string, got api.Fix, ok bool, want *big.Int) {
	t.Helper()
	if !want.IsInt64() {
		if ok || got != 0 {
			t.Errorf("%s: %d, %v; want it refused: %v is beyond", what, got, ok, want)
		}
		return
	}
	if !ok || int64(got) != want.Int64() {
		t.Errorf("%s: %d, %v; want %v, true", what, got, ok, want)
	}
}

func checkPair(t *testing.T, a, b api.Fix) {
	t.Helper()
	what := " of " + bigFix(a).String() + " and " + bigFix(b).String()
	unit := big.NewInt(10000)
	got, ok := Add(a, b)
	checkBig(t, "P1.1: Add"+what, got, ok, new(big.Int).Add(bigFix(a), bigFix(b)))
	got, ok = Sub(a, b)
	checkBig(t, "P1.1: Sub"+what, got, ok, new(big.Int).Sub(bigFix(a), bigFix(b)))
	got, ok = Mul(a, b)
	product := new(big.Int).Mul(bigFix(a), bigFix(b))
	checkBig(t, "P1.1: Mul"+what, got, ok, product.Quo(product, unit))
	got, ok = Div(a, b)
	if b == 0 {
		if ok || got != 0 {
			t.Errorf("P1.1: Div%s: %d, %v; want 0, false", what, got, ok)
		}
		return
	}
	ahead := new(big.Int).Mul(bigFix(a), unit)
	checkBig(t, "P1.1: Div"+what, got, ok, ahead.Quo(ahead, bigFix(b)))
}

func TestPairsAgainstBig(t *testing.T) {
	for _, a := range edges() {
		for _, b := range edges() {
			checkPair(t, a, b)
		}
	}
	list := scattered(500)
	for _, a := range list {
		for _, b := range list {
			checkPair(t, a, b)
		}
	}
}

type pairCase struct {
	name string
	a, b api.Fix
	want api.Fix
	ok   bool
}

func checkCases(t *testing.T, f func(a, b api.Fix) (api.Fix, bool), list []pairCase) {
	t.Helper()
	for _, x := range list {
		if got, ok := f(x.a, x.b); got != x.want || ok != x.ok {
			t.Errorf("P1.1: %s: %d, %v; want %d, %v", x.name, got, ok, x.want, x.ok)
		}
	}
}

func TestAddSub(t *testing.T) {
	checkCases(t, Add, []pairCase{
		{"1.5 + 2.25", 15000, 22500, 37500, true},
		{"most + 0", most, 0, most, true},
		{"most + 0.0001", most, 1, 0, false},
		{"least - 0.0001", least, -1, 0, false},
		{"least + least, which wraps to 0", least, least, 0, false},
		{"most + least", most, least, -1, true},
	})
	checkCases(t, Sub, []pairCase{
		{"1.5 - 2.25", 15000, 22500, -7500, true},
		{"0 - least", 0, least, 0, false},
		{"-0.0001 - least", -1, least, most, true},
		{"least - least", least, least, 0, true},
		{"least - 0.0001", least, 1, 0, false},
		{"most - -0.0001", most, -1, 0, false},
	})
}

func TestMul(t *testing.T) {
	checkCases(t, Mul, []pairCase{
		{"1.5 * 1.5", 15000, 15000, 22500, true},
		{"0.0001 * 0.9999 is cut", 1, 9999, 0, true},
		{"-0.0001 * 0.9999 is cut towards zero", -1, 9999, 0, true},
		{"-1.0001 * 1.0001 is cut towards zero", -10001, 10001, -10002, true},
		{"the product has room between", most, 10000, most, true},
		{"least * 1", least, 10000, least, true},
		{"1 * least", 10000, least, least, true},
		{"least * -1", least, -10000, 0, false},
		{"least * -0.9999", least, -9999, 9222449699651090330, true},
		{"most * 1.0001", most, 10001, 0, false},
		{"most * most", most, most, 0, false},
		{"least * least", least, least, 0, false},
		{"least * 0", least, 0, 0, true},
	})
}

// aboveQuotient is the least whole number above 2^63 * n / by; false: the quotient itself is whole.
func aboveQuotient(n, by api.Fix) (api.Fix, bool) {
	top := new(big.Int).Lsh(bigFix(n), 63)
	whole, rest := top.QuoRem(top, bigFix(by), new(big.Int))
	return api.Fix(whole.Int64() + 1), rest.Sign() != 0
}

// checkCutBack: the result is less than a ten-thousandth beyond the least Fix, so that the cut brings it back.
func checkCutBack(t *testing.T, what string, f func(a, b api.Fix) (api.Fix, bool), a, b api.Fix) {
	t.Helper()
	for _, x := range []pairCase{{"-a, b", -a, b, least, true}, {"a, -b", a, -b, least, true}, {"a, b", a, b, 0, false}, {"-a, -b", -a, -b, 0, false}} {
		if got, ok := f(x.a, x.b); got != x.want || ok != x.ok {
			t.Errorf("P1.1: %s of %s: a %d, b %d: %d, %v; want %d, %v", what, x.name, a, b, got, ok, x.want, x.ok)
		}
	}
}

func TestResultsAreRefusedByWhatTheyAreCutTo(t *testing.T) {
	tried := 0
	for b := api.Fix(10001); b < 20000; b++ {
		a, apart := aboveQuotient(10000, b)
		beyond := new(big.Int).Mul(bigFix(a), bigFix(b))
		beyond.Sub(beyond, new(big.Int).Lsh(bigFix(10000), 63))
		if apart && beyond.Cmp(bigFix(10000)) < 0 {
			checkCutBack(t, "Mul", Mul, a, b)
			tried++
		}
	}
	for b := api.Fix(1); b < 10000; b++ {
		a, apart := aboveQuotient(b, 10000)
		beyond := new(big.Int).Mul(bigFix(a), bigFix(10000))
		beyond.Sub(beyond, new(big.Int).Lsh(bigFix(b), 63))
		if apart && beyond.Cmp(bigFix(b)) < 0 {
			checkCutBack(t, "Div", Div, a, b)
			tried++
		}
	}
	if tried < 1000 {
		t.Errorf("only %d pairs were tried", tried)
	}
}

func TestDiv(t *testing.T) {
	checkCases(t, Div, []pairCase{
		{"3 / 1.5", 30000, 15000, 20000, true},
		{"1 / 3", 10000, 30000, 3333, true},
		{"2 / 3 is cut, not rounded", 20000, 30000, 6666, true},
		{"-2 / 3 is cut towards zero", -20000, 30000, -6666, true},
		{"2 / -3", 20000, -30000, -6666, true},
		{"-2 / -3", -20000, -30000, 6666, true},
		{"0.0001 / most", 1, most, 0, true},
		{"-0.0001 / most", -1, most, 0, true},
		{"1 / 0", 10000, 0, 0, false},
		{"0 / 0", 0, 0, 0, false},
		{"least / 0", least, 0, 0, false},
		{"0 / least", 0, least, 0, true},
		{"the dividend has room between", most, most, 10000, true},
		{"least / least", least, least, 10000, true},
		{"least / 1", least, 10000, least, true},
		{"least / -1", least, -10000, 0, false},
		{"most / -1", most, -10000, -most, true},
		{"most / 0.0001", most, 1, 0, false},
		{"most / 0.9999", most, 9999, 0, false},
		{"least / -0.0001", least, -1, 0, false},
	})
}

func bigSum(l []api.Fix) *big.Int {
	sum := new(big.Int)
	for _, a := range l {
		sum.Add(sum, bigFix(a))
	}
	return sum
}

// eachOrder hands every order of l to f.
func eachOrder(l []api.Fix, f func([]api.Fix)) {
	var place func(k int)
	place = func(k int) {
		if k == len(l) {
			f(l)
			return
		}
		for i := k; i < len(l); i++ {
			l[k], l[i] = l[i], l[k]
			place(k + 1)
			l[k], l[i] = l[i], l[k]
		}
	}
	place(0)
}

func TestSumInEveryOrder(t *testing.T) {
	for _, l := range [][]api.Fix{
		{15000},
		{15000, -2500, 1},
		{most},
		{least},
		{most, 1},
		{least, -1},
		{most, 1, -1},
		{least, -1, 1},
		{least, least},
		{most, most, 2},
		{most, most, least, least, 5},
		{most, most, most, least, least},
		{least, least, least, most, most, 1},
		{least, least, least, most, most, 2},
		{least, least, least, most, most, most},
	} {
		eachOrder(slices.Clone(l), func(order []api.Fix) {
			got, ok := Sum(order...)
			checkBig(t, "P1.1: Sum", got, ok, bigSum(l))
		})
	}
}

func TestSumOfMany(t *testing.T) {
	var long []api.Fix
	for range 100000 {
		long = append(long, most)
	}
	if got, ok := Sum(long...); got != 0 || ok {
		t.Errorf("P1.1: a long sum beyond: %d, %v", got, ok)
	}
	for range 100000 {
		long = append(long, least)
	}
	if got, ok := Sum(long...); got != -100000 || !ok {
		t.Errorf("P1.1: a long sum that comes back: %d, %v", got, ok)
	}
	// 2^64 and a little more: what a single word would keep of it looks right.
	if got, ok := Sum(most, most, 2, 7); got != 0 || ok {
		t.Errorf("P1.1: a sum once around: %d, %v", got, ok)
	}
	list := scattered(2000)
	for k := range list {
		part := list[k:min(k+k%9, len(list))]
		got, ok := Sum(part...)
		checkBig(t, "P1.1: Sum", got, ok, bigSum(part))
	}
}

func TestSumOfNone(t *testing.T) {
	for _, l := range [][]api.Fix{nil, {}} {
		if got, ok := Sum(l...); got != 0 || !ok {
			t.Errorf("P1.1, P0.4: the sum of none: %d, %v", got, ok)
		}
	}
	if got, ok := Sum(); got != 0 || !ok {
		t.Errorf("P1.1: the sum of none: %d, %v", got, ok)
	}
}

func TestSumLeavesItsList(t *testing.T) {
	whole := []api.Fix{most, least, 3, most, 5, 6, 7, 8}
	before := slices.Clone(whole)
	first, _ := Sum(whole[:4]...)
	if !slices.Equal(whole, before) {
		t.Errorf("P0.3: the list is %v, and was %v", whole, before)
	}
	if again, _ := Sum(whole[:4]...); again != first {
		t.Errorf("P0.5: %d, and then %d", first, again)
	}
}

func TestInt(t *testing.T) {
	for _, n := range []int64{0, 1, -1, 42, -42, 922337203685476, 922337203685477, 922337203685478, -922337203685477, -922337203685478, 1 << 60, math.MaxInt64, math.MinInt64, 1 << 59, -1 << 59, 1844674407370956} {
		got, ok := Int(n)
		checkBig(t, "P1.1: Int("+big.NewInt(n).String()+")", got, ok, new(big.Int).Mul(big.NewInt(n), big.NewInt(10000)))
	}
}

// numberForm is P1.2's form of a number.
var numberForm = regexp.MustCompile(`\A-?(0|[1-9][0-9]*)(\.[0-9]{1,4})?\z`)

func checkParse(t *testing.T, s string) {
	t.Helper()
	got, ok := Parse(s)
	if !numberForm.MatchString(s) {
		if ok || got != 0 {
			t.Errorf("P1.2: Parse(%q): %d, %v; want it refused: it is no number", s, got, ok)
		}
		return
	}
	exact, _ := new(big.Rat).SetString(s)
	exact.Mul(exact, big.NewRat(10000, 1))
	checkBig(t, "P1.2: Parse("+s+")", got, ok, exact.Num())
}

func TestParseOfAllShortTexts(t *testing.T) {
	const letters = "-.0179"
	var grow func(s string)
	grow = func(s string) {
		checkParse(t, s)
		if len(s) == 7 {
			return
		}
		for k := range len(letters) {
			grow(s + letters[k:k+1])
		}
	}
	grow("")
}

func TestParseOfAnyByte(t *testing.T) {
	for c := range 256 {
		x := string([]byte{byte(c)})
		for _, s := range []string{x, x + "1", "1" + x, "1" + x + "5", "1.5" + x, "1." + x, "-" + x, x + "-1", "10" + x + "0.5"} {
			checkParse(t, s)
		}
	}
}

func TestParseForms(t *testing.T) {
	for s, want := range map[string]api.Fix{
		"0": 0, "-0": 0, "-0.0000": 0, "0.0": 0, "7": 70000, "-7": -70000, "10": 100000, "0.5": 5000, "0.05": 500, "0.005": 50, "0.0005": 5,
		"-0.0001": -1, "1.50": 15000, "12.34": 123400, "1234567890.9876": 12345678909876,
		"922337203685477.5807": most, "-922337203685477.5808": least, "922337203685477.58": 9223372036854775800,
	} {
		if got, ok := Parse(s); got != want || !ok {
			t.Errorf("P1.2: Parse(%q): %d, %v; want %d, true", s, got, ok, want)
		}
	}
	for _, s := range []string{
		"", "-", ".", "-.", "+1", "--1", "1-", "-+1", ".5", "-.5", "0.", "1.", "00", "01", "-01", "00.5", "-00", "1.23456", "0.00000", "1.2.3", "1..2", "1.-2", "1.+2",
		" 1", "1 ", "1\n", "1 000", "1,5", "1_000", "1e3", "1E3", "0x10", "1.5f", "NaN", "Inf", "-Inf", "one", "\x00", "1\x00", "\xff", "\u0661", "\uff11", "1.\u0665", "\u22121",
		"922337203685477.5808", "-922337203685477.5809", "922337203685478", "-922337203685478", "922337203685477.581", "1844674407370955.1617", "1844674407370955.1616", "99999999999999999999", "100000000000000000000000000000000000000000",
	} {
		if got, ok := Parse(s); got != 0 || ok {
			t.Errorf("P1.2: Parse(%q): %d, %v; want 0, false", s, got, ok)
		}
	}
}

func TestParseAroundTheBounds(t *testing.T) {
	words := []*big.Int{bigFix(most), bigFix(least), new(big.Int).Lsh(big.NewInt(1), 64), new(big.Int).Lsh(big.NewInt(5), 63), new(big.Int).Lsh(big.NewInt(5), 64)}
	for _, middle := range words {
		for step := int64(-20); step <= 20; step++ {
			n := new(big.Int).Add(middle, big.NewInt(step))
			digits := new(big.Int).Abs(n).String()
			text := digits[:len(digits)-4] + "." + digits[len(digits)-4:]
			checkParse(t, text)
			checkParse(t, "-"+text)
		}
	}
}

func TestParseOfLongTexts(t *testing.T) {
	many := 1 << 20
	for _, s := range []string{strings.Repeat("9", many), "1" + strings.Repeat("0", many), strings.Repeat("0", many), "0." + strings.Repeat("0", many), "-" + strings.Repeat("1", many) + ".5", strings.Repeat("-", many), strings.Repeat(".", many), "1." + strings.Repeat("5", many)} {
		if got, ok := Parse(s); got != 0 || ok {
			t.Errorf("P1.2: a text of %d bytes from %q on: %d, %v; want 0, false", len(s), s[:4], got, ok)
		}
	}
}

// printForm is P1.2's form of what Print answers, but for -0.
var printForm = regexp.MustCompile(`\A-?(0|[1-9][0-9]*)(\.[0-9]{0,3}[1-9])?\z`)

func TestPrintIsReadAgain(t *testing.T) {
	list := append(edges(), scattered(20000)...)
	for n := api.Fix(-30000); n <= 30000; n++ {
		list = append(list, n)
	}
	for _, a := range list {
		s := Print(a)
		if !printForm.MatchString(s) || strings.HasPrefix(s, "-") != (a < 0) {
			t.Errorf("P1.2: Print(%d): %q", a, s)
		}
		if got, ok := Parse(s); got != a || !ok {
			t.Errorf("P1.2: Print(%d) is %q, and Parse reads %d, %v", a, s, got, ok)
		}
	}
}

func TestPrint(t *testing.T) {
	for a, want := range map[api.Fix]string{
		0: "0", 1: "0.0001", -1: "-0.0001", 10: "0.001", 100: "0.01", 1000: "0.1", 10000: "1", -10000: "-1", 15000: "1.5", 10050: "1.005", 1000000: "100", -1010100: "-101.01",
		-5000: "-0.5", most: "922337203685477.5807", least: "-922337203685477.5808",
	} {
		if got := Print(a); got != want {
			t.Errorf("P1.2: Print(%d): %q; want %q", a, got, want)
		}
	}
}
