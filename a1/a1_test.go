package a1

import (
	"math"
	"math/big"
	"regexp"
	"strconv"
	"strings"
	"testing"

	"counterpane/api"
)

const (
	last     = 1<<41 - 1 // the last column and the last row
	lastName = "JMTMMTQOF"
	overName = "JMTMMTQOG"
	lastRow  = "2199023255552"
	overRow  = "2199023255553"
)

// far are numbers of no line.
func far() []int64 {
	return []int64{-1, -2, -26, -last, -last - 1, math.MinInt64 + 1, math.MinInt64, last + 1, last + 2, 2 * last, 1 << 42, 1 << 62, math.MaxInt64 - 1, math.MaxInt64}
}

// foreign are signs that stand nowhere in a reference, blanks and bytes that are no text among them.
func foreign() []string {
	return []string{" ", "\t", "\n", "\x00", "-", "+", ".", ",", ":", "#", "'", "_", "@", "[", "/", "`", "{", "\"", "é", "Ａ", "１", "Ａ1", "À", "А", "٣", "🙂", "\u00a0", "\ufeff", "\xff", "\xc3", "\x80", "\xf0\x9f"}
}

// next is the name behind a column's name, counted on as on a wheel of letters.
func next(name string) string {
	b := []byte(name)
	for i := len(b) - 1; i >= 0; i-- {
		if b[i] < 'Z' {
			b[i]++
			return string(b)
		}
		b[i] = 'A'
	}
	return "A" + string(b)
}

func TestColumnsOneByOne(t *testing.T) {
	name := "A"
	for n := range int64(20000) {
		if got := ColName(n); got != name {
			t.Fatalf("P5.1: ColName(%d) is %q, not %q", n, got, name)
		}
		if got, ok := Col(name); got != n || !ok {
			t.Fatalf("P5.1: Col(%q) is %d, %v, not %d", name, got, ok, n)
		}
		name = next(name)
	}
}

func TestColumns(t *testing.T) {
	for _, c := range []struct {
		name string
		n    int64
	}{
		{"A", 0}, {"B", 1}, {"Z", 25}, {"AA", 26}, {"AZ", 51}, {"BA", 52}, {"ZZ", 701}, {"AAA", 702}, {"ZZZ", 18277}, {"AAAA", 18278},
		{"ZZZZZZZZ", 217180147157}, {"AAAAAAAAA", 217180147158}, {"JMTMMTQOE", last - 1}, {lastName, last},
	} {
		if got, ok := Col(c.name); got != c.n || !ok {
			t.Errorf("P5.1: Col(%q) is %d, %v, not %d", c.name, got, ok, c.n)
		}
		if got := ColName(c.n); got != c.name {
			t.Errorf("P5.1: ColName(%d) is %q, not %q", c.n, got, c.name)
		}
	}
}

func noColumns() []string {
	out := []string{
		"", "a", "z", "aA", "Aa", "AaA", "1", "A1", "1A", "$", "$A", "A$", "!", "A!", "c0n0!A",
		overName, "JMTMMTQPA", "JMTMMTRAA", "JMTNAAAAA", "KAAAAAAAA", "ZZZZZZZZZ", "AAAAAAAAAA", "JMTMMTQOFA", "AJMTMMTQOF", "ZZZZZZZZZZ",
		strings.Repeat("A", 13), strings.Repeat("A", 14), strings.Repeat("Z", 20), strings.Repeat("A", 1<<20),
	}
	for _, f := range foreign() {
		out = append(out, f, f+"A", "A"+f, "A"+f+"A")
	}
	return out
}

func TestNoColumns(t *testing.T) {
	for _, s := range noColumns() {
		if n, ok := Col(s); n != 0 || ok {
			t.Errorf("P5.1, P0.2: Col(%.40q) is %d, %v", s, n, ok)
		}
	}
	for _, n := range far() {
		if s := ColName(n); s != "" {
			t.Errorf("P5.1: ColName(%d) is %q", n, s)
		}
	}
}

// Each byte at each place of a name, so that no sign but a great letter is taken for one.
func TestColumnsByBytes(t *testing.T) {
	for b := range 256 {
		great := 'A' <= b && b <= 'Z'
		for _, s := range []string{string([]byte{byte(b)}), string([]byte{byte(b), 'A'}), string([]byte{'A', byte(b)}), string([]byte{'A', byte(b), 'A'})} {
			if n, ok := Col(s); ok != great || !great && n != 0 {
				t.Errorf("P5.1: Col(%q) is %d, %v", s, n, ok)
			}
		}
	}
}

func TestIds(t *testing.T) {
	for owner := range 16 {
		for _, count := range []string{"0", "1", "9", "10", "99", "100", "12345", "99999", "100000", "999998", "999999"} {
			id := "c" + strconv.Itoa(owner) + "n" + count
			if !Id(id) || Owner(id) != owner {
				t.Errorf("P5.1: %q: Id is %v, Owner is %d", id, Id(id), Owner(id))
			}
		}
	}
	for _, id := range noIds() {
		if Id(id) || Owner(id) != -1 {
			t.Errorf("P5.1: %.40q: Id is %v, Owner is %d", id, Id(id), Owner(id))
		}
	}
}

func noIds() []string {
	out := []string{
		"", "c", "n", "cn", "c0", "c0n", "n0", "cn0", "0n0", "c0n0n0", "c0nn0", "cc0n0", "c0c0n0", "n0c0", "C0n0", "c0N0", "C0N0", "c0n0!", "!", "A1", "c0n0!A1",
		"c16n0", "c17n0", "c20n0", "c99n0", "c100n0", "c150n0", "c18446744073709551616n0", "c18446744073709551617n1",
		"c0n1000000", "c0n1000001", "c0n9999999", "c0n18446744073709551616", "c0n18446744073709551617",
		"c00n0", "c01n0", "c015n0", "c0n00", "c0n01", "c0n0999999", "c15n0000000",
		"c-1n0", "c+1n0", "c0n-1", "c0n+1", "c-0n0", "c0n-0", "c1.0n0", "c0x1n0", "c1e1n0", "c0n1e1", "c0n1_0",
		"c" + strings.Repeat("1", 1<<20) + "n0", "c0n" + strings.Repeat("1", 1<<20), "c" + strings.Repeat("0", 1<<20) + "n0", strings.Repeat("c0n0", 1<<10),
	}
	for _, f := range foreign() {
		out = append(out, f, f+"c0n0", "c"+f+"0n0", "c0"+f+"n0", "c0n"+f+"0", "c0n0"+f, "c"+f+"n0", "c0n"+f)
	}
	return out
}

func ref(sheet string, row, col int64, rowAbs, colAbs bool) api.Ref {
	return api.Ref{Sheet: sheet, Row: row, Col: col, RowAbs: rowAbs, ColAbs: colAbs}
}

func TestReferences(t *testing.T) {
	for _, c := range []struct {
		text string
		ref  api.Ref
	}{
		{"A1", ref("", 0, 0, false, false)},
		{"$A1", ref("", 0, 0, false, true)},
		{"A$1", ref("", 0, 0, true, false)},
		{"$A$1", ref("", 0, 0, true, true)},
		{"B10", ref("", 9, 1, false, false)},
		{"Z26", ref("", 25, 25, false, false)},
		{"AA$100", ref("", 99, 26, true, false)},
		{"$ZZ7", ref("", 6, 701, false, true)},
		{"c0n0!A1", ref("c0n0", 0, 0, false, false)},
		{"c0n0!$AZ1", ref("c0n0", 0, 51, false, true)},
		{"c3n14!BA$15", ref("c3n14", 14, 52, true, false)},
		{"c15n999999!$AAA$10", ref("c15n999999", 9, 702, true, true)},
		{"A" + lastRow, ref("", last, 0, false, false)},
		{lastName + "1", ref("", 0, last, false, false)},
		{"c15n999999!$" + lastName + "$" + lastRow, ref("c15n999999", last, last, true, true)},
	} {
		if r, ok := Parse(c.text); r != c.ref || !ok {
			t.Errorf("P5.1: Parse(%q) is %v, %v, not %v", c.text, r, ok, c.ref)
		}
		if s := Print(c.ref); s != c.text {
			t.Errorf("P5.1: Print(%v) is %q, not %q", c.ref, s, c.text)
		}
	}
}

func sheets() []string {
	return []string{"", "c0n0", "c1n2", "c9n10", "c10n9", "c15n999999"}
}

func TestParseOfPrint(t *testing.T) {
	lines := []int64{0, 1, 8, 9, 10, 24, 25, 26, 27, 99, 701, 702, 18277, 18278, 1 << 32, 1 << 40, last - 1, last}
	for _, sheet := range sheets() {
		for _, row := range lines {
			for _, col := range lines {
				for signs := range 4 {
					r := ref(sheet, row, col, signs&1 != 0, signs&2 != 0)
					if got, ok := Parse(Print(r)); got != r || !ok {
						t.Errorf("P5.1: Parse(%q) is %v, %v, not %v", Print(r), got, ok, r)
					}
				}
			}
		}
	}
}

func noReferences() []string {
	out := []string{
		"", "A", "Z", "ABC", "1", "12", "$", "!", "$A", "$1", "A$", "$A$", "$$", "$$1", "c0n0",
		"a1", "aA1", "Aa1", "z$9", "$a$1", "A0", "A00", "A01", "A007", "A$0", "A$01", "$A0", "$A$0", "A-1", "A+1", "A-0", "A1.0", "A1e1", "A1_0", "A0x1",
		"$$A1", "A$$1", "$$A$$1", "$A$1$", "A1$", "A1$1", "A$1$", "A$B1", "$A$B$1", "1A", "1$A", "A1A", "A1B2", "A1A1", "A1:B2", "#REF!", "A1#",
		"!A1", "!!A1", "c0n0!", "c0n0!!", "c0n0!!A1", "c0n0!A1!", "A1!", "A1!A1", "c0n0!c0n0!A1", "c0n0!A!1", "c0n0!$", "c0n0!A", "c0n0!1", "c0n0!A0", "c0n0A1", "c0n0$A1", "$c0n0!A1", "c0n0$!A1", "c0n0!a1",
		"C0n0!A1", "c16n0!A1", "c0n1000000!A1", "c00n0!A1", "c01n0!A1", "c0n01!A1", "c0!A1", "n0!A1", "c0n!A1", "cn0!A1", "x!A1", "Sheet!A1", "'c0n0'!A1",
		"A" + overRow, "A9999999999999", "A10000000000000", "A9223372036854775807", "A9223372036854775808", "A18446744073709551617", "A" + strings.Repeat("9", 40), "A" + strings.Repeat("1", 1<<20), "A$" + strings.Repeat("1", 1<<20),
		overName + "1", "ZZZZZZZZZ1", "AAAAAAAAAA1", "$AAAAAAAAAA$1", strings.Repeat("A", 1<<20) + "1", strings.Repeat("Z", 14) + "1",
		strings.Repeat("$", 1<<10) + "A1", strings.Repeat("!", 1<<10), strings.Repeat("c0n0!", 1<<10) + "A1",
	}
	for _, f := range foreign() {
		out = append(out, f, f+"A1", "A"+f+"1", "A1"+f, "$"+f+"A1", "A$"+f+"1", f+"c0n0!A1", "c0"+f+"n0!A1", "c0n0"+f+"!A1", "c0n0!"+f+"A1", "A"+f, f+"1")
	}
	return out
}

func TestNoReferences(t *testing.T) {
	for _, s := range noReferences() {
		if r, ok := Parse(s); ok || r != (api.Ref{}) {
			t.Errorf("P5.1, P0.2: Parse(%.40q) is %v, %v", s, r, ok)
		}
	}
}

func TestNothingToPrint(t *testing.T) {
	for _, sheet := range sheets() {
		for signs := range 4 {
			for _, n := range far() {
				for _, r := range []api.Ref{ref(sheet, n, 0, signs&1 != 0, signs&2 != 0), ref(sheet, 0, n, signs&1 != 0, signs&2 != 0), ref(sheet, n, n, signs&1 != 0, signs&2 != 0), ref(sheet, n, last, signs&1 != 0, signs&2 != 0)} {
					if s := Print(r); s != "" {
						t.Errorf("P5.1: Print(%v) is %q", r, s)
					}
				}
			}
		}
	}
	for _, sheet := range noIds() {
		if s := Print(api.Ref{Sheet: sheet}); s != "" && sheet != "" {
			t.Errorf("P5.1: Print of a reference to %.40q is %.40q", sheet, s)
		}
	}
}

const idForm = `c(0|[1-9]|1[0-5])n(?:0|[1-9][0-9]{0,5})`

var (
	idAlone   = regexp.MustCompile(`\A` + idForm + `\z`)
	reference = regexp.MustCompile(`\A(?:(` + idForm + `)!)?(\$?)([A-Z]{1,9})(\$?)([1-9][0-9]*)\z`)
)

// worth adds up the places of a name or of a number, in integers of any length, and is its line.
func worth(s string, first byte, base int64, one int64) (int64, bool) {
	n := new(big.Int)
	for i := range len(s) {
		n.Mul(n, big.NewInt(base))
		n.Add(n, big.NewInt(int64(s[i]-first)+one))
	}
	n.Sub(n, big.NewInt(1))
	if n.Sign() < 0 || n.Cmp(big.NewInt(last)) > 0 {
		return 0, false
	}
	return n.Int64(), true
}

// told is the reference that s tells, read by a pattern.
func told(s string) (api.Ref, bool) {
	m := reference.FindStringSubmatch(s)
	if m == nil {
		return api.Ref{}, false
	}
	col, okCol := worth(m[4], 'A', 26, 1)
	row, okRow := worth(m[6], '0', 10, 0)
	if !okCol || !okRow {
		return api.Ref{}, false
	}
	return ref(m[1], row, col, m[5] != "", m[3] != ""), true
}

func ownerTold(s string) int {
	m := idAlone.FindStringSubmatch(s)
	if m == nil {
		return -1
	}
	n, _ := strconv.Atoi(m[1])
	return n
}

// agree holds what the program says of s against the patterns.
func agree(t *testing.T, s string) {
	t.Helper()
	want, wantOk := told(s)
	if r, ok := Parse(s); r != want || ok != wantOk {
		t.Errorf("P5.1: Parse(%q) is %v, %v, not %v, %v", s, r, ok, want, wantOk)
	}
	if wantOk && Print(want) != s {
		t.Errorf("P5.1: Print(%v) is %q, not %q", want, Print(want), s)
	}
	if owner := ownerTold(s); Owner(s) != owner || Id(s) != (owner >= 0) {
		t.Errorf("P5.1: Owner(%q) is %d, Id is %v, not %d", s, Owner(s), Id(s), owner)
	}
}

// grow calls f with every text of at most more signs behind head.
func grow(head string, signs string, more int, f func(string)) {
	f(head)
	if more == 0 {
		return
	}
	for i := range len(signs) {
		grow(head+signs[i:i+1], signs, more-1, f)
	}
}

func TestAllShortTexts(t *testing.T) {
	check := func(s string) { agree(t, s) }
	grow("", "AZ01$!cn ", 5, check)
	grow("c0n0", "A01$!n", 5, check)
	grow("c1", "0569n!A", 4, check)
	grow("c0n99999", "09!A1", 4, check)
	grow("JMTMMTQO", "FGA1$", 4, check)
	grow("A219902325555", "0123$", 2, check)
	grow("A$21990232555", "0235", 3, check)
}

// Every text that is one byte away from one that tells something.
func TestOneByteAway(t *testing.T) {
	for _, s := range []string{
		"A1", "$Z$90", "c0n0!A1", "c15n999999!$AA$10", "c9n10!ZZ99", "c15n999999", "c0n0", "c10n100000",
		lastName + lastRow, "c1n1!$" + lastName + "$" + lastRow, "A" + overRow, overName + "1", "AAAAAAAAA1", "c16n0!A1",
	} {
		for at := range len(s) + 1 {
			for b := range 256 {
				agree(t, s[:at]+string([]byte{byte(b)})+s[at:])
				if at < len(s) {
					agree(t, s[:at]+string([]byte{byte(b)})+s[at+1:])
				}
			}
			if at < len(s) {
				agree(t, s[:at]+s[at+1:])
			}
		}
	}
}

// A second answer is the same as the first, whatever was asked between.
func TestAnswersHangOnArguments(t *testing.T) {
	first, _ := Parse("c1n2!$B3")
	text := Print(first)
	for _, s := range noReferences() {
		Parse(s)
		Print(api.Ref{Sheet: s})
	}
	again, ok := Parse("c1n2!$B3")
	if again != first || !ok || Print(again) != text || text != "c1n2!$B3" {
		t.Errorf("P0.5: %v, %v, %q", again, ok, Print(again))
	}
}
