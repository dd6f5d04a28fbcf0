package lex

import (
	"regexp"
	"slices"
	"strings"
	"testing"
	"unicode/utf8"
	"unsafe"

	"counterpane/a1"
	"counterpane/fixnum"
	"counterpane/value"
)

// piece is one word alone: as it is written, and what it is.
type piece struct {
	written string
	kind    int
	text    string
}

// plain are words that are written as their Text is.
func plain(kind int, texts ...string) []piece {
	var out []piece
	for _, s := range texts {
		out = append(out, piece{s, kind, s})
	}
	return out
}

func numbers() []piece {
	return plain(1, "0", "7", "10", "1234567890", "0.5", "1.5", "1.50", "12.0000", "0.0001", "922337203685477", "922337203685477.5807")
}

func texts() []piece {
	return []piece{
		{`""`, 2, ""},
		{`"a"`, 2, "a"},
		{`" "`, 2, " "},
		{`"  a  b  "`, 2, "  a  b  "},
		{`""""`, 2, `"`},
		{`""""""`, 2, `""`},
		{`"a""b"`, 2, `a"b`},
		{`"""a"`, 2, `"a`},
		{`"a"""`, 2, `a"`},
		{`"a""""b"""`, 2, `a""b"`},
		{`"1+A1"`, 2, "1+A1"},
		{`"SUM(,)<>#X"`, 2, "SUM(,)<>#X"},
		{`"\"`, 2, `\`},
		{"\"\t\n\r\x00\x7f\"", 2, "\t\n\r\x00\x7f"},
		{`"é Ａ 🙂 ` + "\u00a0\ufeff\ufffd" + `"`, 2, "é Ａ 🙂 \u00a0\ufeff\ufffd"},
		{`"` + strings.Repeat("a", 200) + `"`, 2, strings.Repeat("a", 200)},
		{`"` + strings.Repeat("é", 100) + `"`, 2, strings.Repeat("é", 100)},
		{`"` + strings.Repeat(`""`, 200) + `"`, 2, strings.Repeat(`"`, 200)},
	}
}

func references() []piece {
	return plain(3, "A1", "$A1", "A$1", "$A$1", "ZZ99", "TRUE1", "FALSE$1", "SUM1", "c0n0!A1", "c15n999999!$AA$10", "JMTMMTQOF2199023255552")
}

func truths() []piece {
	return plain(4, "TRUE", "FALSE")
}

func failures() []piece {
	return plain(5, "#REF!", "#CYCLE!", "#DIV/0!", "#NUM!", "#VALUE!", "#NAME?", "#N/A")
}

func allSigns() []piece {
	return plain(6, "+", "-", "*", "/", "&", "=", "<>", "<", "<=", ">", ">=", "(", ")", ",", ":")
}

// pieces are words that stand alone: all kinds but names that are called.
func pieces() []piece {
	return slices.Concat(numbers(), texts(), references(), truths(), failures(), allSigns())
}

// laid writes words with gap between them, and tells them with their places and the end.
func laid(ahead, gap, behind string, l ...piece) (string, []Word) {
	s := ahead
	var words []Word
	for i, p := range l {
		if i > 0 {
			s += gap
		}
		words = append(words, Word{Kind: p.kind, Text: p.text, At: len(s)})
		s += p.written
	}
	s += behind
	return s, append(words, Word{Kind: 7, At: len(s)})
}

func checkWords(t *testing.T, s string, want []Word) {
	t.Helper()
	got, at, ok := Scan(s)
	if !ok || at != 0 || !slices.Equal(got, want) {
		t.Errorf("P6.1: Scan(%.60q) is %v, %d, %v, not %v", s, got, at, ok, want)
	}
}

func checkWrong(t *testing.T, s string, want int) {
	t.Helper()
	got, at, ok := Scan(s)
	if ok || at != want || got != nil {
		t.Errorf("P6.1, P0.2: Scan(%.60q) is %v, %d, %v, not wrong at %d", s, got, at, ok, want)
	}
}

func TestTheEndAlone(t *testing.T) {
	for n := range 1001 {
		checkWords(t, strings.Repeat(" ", n), []Word{{Kind: 7, At: n}})
	}
}

func TestOneWord(t *testing.T) {
	for _, p := range pieces() {
		for _, blanks := range [][2]string{{"", ""}, {" ", ""}, {"", " "}, {" ", " "}, {"   ", "    "}} {
			s, want := laid(blanks[0], "", blanks[1], p)
			checkWords(t, s, want)
		}
	}
}

func TestTwoWordsWithBlanks(t *testing.T) {
	for _, a := range pieces() {
		for _, b := range pieces() {
			for _, gap := range []string{" ", "   "} {
				s, want := laid(" ", gap, " ", a, b)
				checkWords(t, s, want)
			}
		}
	}
}

// Signs of one sign each grow no further with these around them, and part all other words.
func TestWordsWithoutBlanks(t *testing.T) {
	parting := plain(6, "+", "-", "*", "/", "&", ")", ",", ":")
	for _, a := range pieces() {
		for _, b := range pieces() {
			for _, sign := range parting {
				s, want := laid("", "", "", a, sign, b, sign)
				checkWords(t, s, want)
			}
		}
	}
}

func TestNames(t *testing.T) {
	open := piece{"(", 6, "("}
	names := plain(4, "A", "Z", "AZ", "SUM", "IF", "TRUE", "FALSE", "TRUEST", "JMTMMTQOG", "ABCDEFGHIJKLMNOPQRSTUVWXYZ", strings.Repeat("Q", 20), strings.Repeat("Q", 21), strings.Repeat("Q", 999))
	for _, name := range names {
		s, want := laid("", "", "", name, open)
		checkWords(t, s, want)
	}
	for c := 'A'; c <= 'Z'; c++ {
		s, want := laid(" ", "", " ", piece{string(c), 4, string(c)}, open, open)
		checkWords(t, s, want)
	}
	for _, name := range names[:len(names)-1] {
		s, want := laid("1+", "", "", name, open, piece{")", 6, ")"})
		checkWords(t, s, append([]Word{{1, "1", 0}, {6, "+", 1}}, want...))
	}
	checkWords(t, "A1(", []Word{{3, "A1", 0}, {6, "(", 2}, {7, "", 3}})
	checkWords(t, "1(", []Word{{1, "1", 0}, {6, "(", 1}, {7, "", 2}})
	checkWords(t, "TRUE (", []Word{{4, "TRUE", 0}, {6, "(", 5}, {7, "", 6}})
	checkWords(t, "SUM(A1 ", []Word{{4, "SUM", 0}, {6, "(", 3}, {3, "A1", 4}, {7, "", 7}})
}

func TestFormulas(t *testing.T) {
	checkWords(t, `SUM($A$1:B2,c0n1!C3) <= -1.5&"a""b"`, []Word{
		{4, "SUM", 0}, {6, "(", 3}, {3, "$A$1", 4}, {6, ":", 8}, {3, "B2", 9}, {6, ",", 11}, {3, "c0n1!C3", 12}, {6, ")", 19},
		{6, "<=", 21}, {6, "-", 24}, {1, "1.5", 25}, {6, "&", 28}, {2, `a"b`, 29}, {7, "", 35},
	})
	checkWords(t, "IF(TRUE,#N/A,#DIV/0!)", []Word{
		{4, "IF", 0}, {6, "(", 2}, {4, "TRUE", 3}, {6, ",", 7}, {5, "#N/A", 8}, {6, ",", 12}, {5, "#DIV/0!", 13}, {6, ")", 20}, {7, "", 21},
	})
	checkWords(t, `1"a"A1"b""c"TRUE#REF!2`, []Word{
		{1, "1", 0}, {2, "a", 1}, {3, "A1", 4}, {2, `b"c`, 6}, {4, "TRUE", 12}, {5, "#REF!", 16}, {1, "2", 21}, {7, "", 22},
	})
	checkWords(t, "#N/A#NUM!#NAME?A1#REF!", []Word{
		{5, "#N/A", 0}, {5, "#NUM!", 4}, {5, "#NAME?", 9}, {3, "A1", 15}, {5, "#REF!", 17}, {7, "", 22},
	})
}

func TestSignsAreTheLongest(t *testing.T) {
	for _, c := range []struct {
		s     string
		signs []string
	}{
		{"<>", []string{"<>"}}, {"< >", []string{"<", " ", ">"}},
		{"<=", []string{"<="}}, {"< =", []string{"<", " ", "="}},
		{">=", []string{">="}}, {"> =", []string{">", " ", "="}},
		{"><", []string{">", "<"}}, {"=<", []string{"=", "<"}}, {"=>", []string{"=", ">"}}, {"==", []string{"=", "="}}, {"<<", []string{"<", "<"}}, {">>", []string{">", ">"}},
		{"<=>", []string{"<=", ">"}}, {"<>=", []string{"<>", "="}}, {"<<=", []string{"<", "<="}}, {"<<>", []string{"<", "<>"}}, {">>=", []string{">", ">="}}, {">=<", []string{">=", "<"}}, {">=<=<>", []string{">=", "<=", "<>"}},
		{"--", []string{"-", "-"}}, {"++", []string{"+", "+"}}, {"**", []string{"*", "*"}}, {"//", []string{"/", "/"}}, {"&&", []string{"&", "&"}}, {"::", []string{":", ":"}}, {",,", []string{",", ","}}, {"(())", []string{"(", "(", ")", ")"}},
	} {
		var want []Word
		at := 0
		for _, sign := range c.signs {
			if sign != " " {
				want = append(want, Word{6, sign, at})
			}
			at += len(sign)
		}
		checkWords(t, c.s, append(want, Word{Kind: 7, At: len(c.s)}))
	}
}

func TestMinusIsAWordOfItsOwn(t *testing.T) {
	for _, n := range numbers() {
		for _, gap := range []string{"", " "} {
			s, want := laid("", gap, "", piece{"-", 6, "-"}, n)
			checkWords(t, s, want)
			s, want = laid("", gap, "", piece{"2", 1, "2"}, piece{"-", 6, "-"}, piece{"-", 6, "-"}, n)
			checkWords(t, s, want)
		}
	}
	// As the least number is read with its sign, it is none without.
	checkWrong(t, "-922337203685477.5808", 1)
}

// wrong are words that are wrong as a whole, whatever stands ahead of them with a blank between.
func wrong() []string {
	return []string{
		"SUM", "SUM (", "A", "A (", "Z  (", "TRUTH", "TRUE.", "TRUE!", "$TRUE", "TRUETRUE", "FALSETRUE", "TRUEFALSE (", "sum(", "Sum(", "sUM(", "suM(", "true", "True", "fALSE", "true(", "SUM1.(", "S$UM(", "SUM!(", "SUM.(", "SUM$(", "1SUM(", "A1B(", "$(", "!(", ".(", "A.B(", "SUM\t(", `SUM"("`, "SUM#REF!", "SUM)", "SUM+1",
		"a1", "b", "A1a", "aA1", "A0", "A01", "A1$", "$A$", "$$A1", "A$$1", "A1B2", "A1.5", "A1A1", "$", "!", ".", "c0n0", "c0n0!", "c0n0!a1", "C0n0!A1", "c16n0!A1", "c0n0!A1!", "!A1", "c0n0!SUM(", "c0n0!TRUE", "c0n0!1", "JMTMMTQOG1", "A2199023255553", "A1TRUE", "x", strings.Repeat("A", 30) + "1",
		"1.5.2", "1A", "01", "00", "007", "1.", ".5", ".", "1..5", "1.23456", "1.00000", "1e5", "1E5", "0x1", "1$", "$1", "1!", "1.A1", "1TRUE", "922337203685477.5808", "922337203685478", "9223372036854775807", strings.Repeat("9", 40), "0" + strings.Repeat("0", 30) + "1",
		"#", "##", "# ", "#X", "#REF", "#REF?", "#REF.", "#ref!", "#Ref!", "#CYCLE", "#CYCL!", "#DIV", "#DIV/", "#DIV/0", "#DIV/1!", "#DIV0!", "#NUM", "#NUM?", "#VALUE", "#VALUE?", "#NAME", "#NAME!", "#N", "#N/", "#N/a", "#N /A", "# N/A", "#TRUE", "##REF!", "#1", "#OK", "#\"\"", "#é",
		`"`, `"a`, `"a b`, `"""`, `"a""`, `"""a`, `"""""`, `"(1,2)`, `"` + strings.Repeat("a", 300),
		"\"\xff\"", "\"a\xffb\"", "\"\xc3\"", "\"\xc3\"\"\xa9\"", "\"\x80\"", "\"\xf0\x9f\x99\"", "\"\xed\xa0\x80\"", "\"\xc0\x80\"", "\"\xf4\x90\x80\x80\"", "\"\xff", "\"\"\"\xff\"\"\"",
		`"` + strings.Repeat("a", 201) + `"`, `"` + strings.Repeat("é", 100) + `a"`, `"` + strings.Repeat("é", 101) + `"`, `"` + strings.Repeat(`""`, 201) + `"`, `"` + strings.Repeat(" ", 201) + `"`, `"` + strings.Repeat("a", 200) + "\xff" + `"`, `"` + strings.Repeat("a", 199) + "\xff" + `"`,
		"é", "É", "Ａ1", "１", "А1", "٣", "🙂", "\u00a0", "\u2003", "\ufeff", "“a”", "−1", "×", "≤", "≠", "\xff", "\xc3", "\x80", "\xa0",
		"\t", "\n", "\r", "\r\n", "\v", "\f", "\x00", "\x01", "\x1f", "\x7f", ";", "'", "'a'", "?", "@", "[", "]", "{", "}", "_", "_A(", "`", "|", "~", "^", "%", "\\", ";1",
	}
}

func TestWrongWords(t *testing.T) {
	ahead := []string{"", " ", "   ", "1 ", "1+", "-", "(", "A1:", "A1 ", "SUM(", "SUM( ", `"a""b" `, `"é",`, "TRUE,", "#N/A ", "#REF!=", "<=", "<> ", "1 2 A1 TRUE ", strings.Repeat(" ", 500), strings.Repeat("+", 500), `"` + strings.Repeat("a", 200) + `"&`}
	for _, w := range wrong() {
		for _, s := range ahead {
			checkWrong(t, s+w, len(s))
			checkWrong(t, s+w+" ", len(s))
		}
	}
}

// The first of two wrong words is told. A text that is not closed would take in the second one.
func TestTheFirstWrongWord(t *testing.T) {
	for _, a := range wrong() {
		if strings.Contains(a, `"`) {
			continue
		}
		for _, b := range []string{"a1", "é", "#", `"`, "SUM"} {
			checkWrong(t, "1+"+a+" "+b, 2)
		}
	}
	checkWrong(t, "1 a1 b2", 2)
	checkWrong(t, "é é", 0)
	checkWrong(t, "A1é", 2)
	checkWrong(t, "TRUEé", 4)
	checkWrong(t, "SUMé(", 0)
	checkWrong(t, "#REF!!", 5)
	checkWrong(t, "#REF!a", 5)
	checkWrong(t, "#N/A1.", 4)
	checkWrong(t, "1;", 1)
	checkWrong(t, "1\t", 1)
	checkWrong(t, "1\n+2", 1)
	checkWrong(t, `"a"b"`, 3)
	checkWrong(t, `"a"" "b`, 6)
	checkWrong(t, `"a" "b`, 4)
}

func TestLongestFormula(t *testing.T) {
	checkWords(t, strings.Repeat(" ", 999)+"1", []Word{{1, "1", 999}, {7, "", 1000}})
	checkWords(t, "1"+strings.Repeat(" ", 999), []Word{{1, "1", 0}, {7, "", 1000}})
	checkWords(t, strings.Repeat(" ", 998)+"A1", []Word{{3, "A1", 998}, {7, "", 1000}})
	var want []Word
	for at := range 1000 {
		want = append(want, Word{6, "(", at})
	}
	checkWords(t, strings.Repeat("(", 1000), append(want, Word{7, "", 1000}))
	checkWrong(t, strings.Repeat("(", 999)+"a", 999)
	checkWrong(t, strings.Repeat("a", 1000), 0)
	for _, s := range []string{" ", "1", "(", "a", "A", `"`, "#", "\xff", "é", "<"} {
		for _, n := range []int{1001, 1002, 1 << 16, 1 << 22} {
			checkWrong(t, strings.Repeat(s, n), 0)
		}
	}
	// No word of these is wrong at 0, or none at all: it is the length that is.
	checkWrong(t, strings.Repeat(" ", 1000)+"1", 0)
	checkWrong(t, strings.Repeat("+", 1000)+"a", 0)
	checkWrong(t, "1+"+strings.Repeat(" ", 998)+"a", 0)
	checkWrong(t, "1 a"+strings.Repeat(" ", 998), 0)
}

var (
	blanks = regexp.MustCompile(`\A *`)
	// The closing sign may be wanting, so that no other way is tried where the last two mean one.
	oneWord = regexp.MustCompile(`\A(?s:([A-Za-z0-9$!.]+)|("(?:[^"]|"")*"?)|(#(?:REF!|CYCLE!|DIV/0!|NUM!|VALUE!|NAME\?|N/A))|(<>|<=|>=|[-+*/&=<>(),:]))`)
	called  = regexp.MustCompile(`\A[A-Z]+\z`)
)

// meant is what a text that is written so means.
func meant(written string) (string, bool) {
	if strings.Count(written, `"`)%2 != 0 {
		return "", false
	}
	text := strings.ReplaceAll(written[1:len(written)-1], `""`, `"`)
	return text, len(text) <= 200 && utf8.ValidString(text)
}

// told is the first word of s, read by a pattern; its length is 0 if it is wrong.
func told(s string) (kind int, text string, length int) {
	m := oneWord.FindStringSubmatch(s)
	if m == nil {
		return 0, "", 0
	}
	length = len(m[0])
	switch {
	case m[2] != "":
		text, isText := meant(m[2])
		if !isText {
			return 0, "", 0
		}
		return 2, text, length
	case m[3] != "":
		return 5, m[3], length
	case m[4] != "":
		return 6, m[4], length
	}
	_, number := fixnum.Parse(m[1])
	_, reference := a1.Parse(m[1])
	name := called.MatchString(m[1]) && length < len(s) && s[length] == '('
	switch {
	case number:
		return 1, m[1], length
	case reference:
		return 3, m[1], length
	case name || m[1] == "TRUE" || m[1] == "FALSE":
		return 4, m[1], length
	}
	return 0, "", 0
}

// agree holds what Scan says of s against the patterns.
func agree(t *testing.T, s string) {
	t.Helper()
	var words []Word
	at := len(blanks.FindString(s))
	for at < len(s) {
		kind, text, length := told(s[at:])
		if length == 0 {
			checkWrong(t, s, at)
			return
		}
		words = append(words, Word{kind, text, at})
		at += length
		at += len(blanks.FindString(s[at:]))
	}
	checkWords(t, s, append(words, Word{7, "", len(s)}))
}

// grow calls f with every text of at most more signs behind head.
func grow(head string, signs string, more int, f func(string)) {
	f(head)
	if more == 0 {
		return
	}
	for i := range len(signs) {
		grow(head+signs[i:i+1], signs, more-1, f)
	}
}

func TestAllShortTexts(t *testing.T) {
	check := func(s string) { agree(t, s) }
	grow("", "A1a$!.\"(#<>= -\xc3\xa9", 4, check)
	grow("", "<>=-", 7, check)
	grow("", "\"a ", 9, check)
	grow("", "A1(. $", 6, check)
	grow("TRUE", "E1( .+\"", 3, check)
	grow("c0n0!", "A1!$ :", 4, check)
	grow("#N/", "A1! #\"", 4, check)
}

// Every text that is one byte away from one that has words of all kinds.
func TestOneByteAway(t *testing.T) {
	for _, s := range []string{
		`SUM( c0n0!$A$1:B2 ,"a""b") `, "TRUE<>FALSE<=#N/A", "-1.5>=10*(2)", "#REF!#CYCLE!#DIV/0!#NUM!", "#VALUE!,#NAME?", `""&"é 🙂"="x"`, "A1 1 IF(TRUE)",
	} {
		for at := range len(s) + 1 {
			for b := range 256 {
				agree(t, s[:at]+string([]byte{byte(b)})+s[at:])
				if at < len(s) {
					agree(t, s[:at]+string([]byte{byte(b)})+s[at+1:])
				}
			}
			if at < len(s) {
				agree(t, s[:at]+s[at+1:])
				agree(t, s[:at])
			}
		}
	}
}

func TestErrorsAreThoseOfValue(t *testing.T) {
	for err := 1; err <= 7; err++ {
		name := value.Name(err)
		checkWords(t, name, []Word{{5, name, 0}, {7, "", len(name)}})
		for cut := 1; cut < len(name); cut++ {
			checkWrong(t, name[:cut], 0)
			checkWrong(t, name[:cut]+" "+name[cut:], 0)
		}
	}
}

// inside says whether part lies in the memory of whole.
func inside(part, whole string) bool {
	if part == "" {
		return false
	}
	at, from := uintptr(unsafe.Pointer(unsafe.StringData(part))), uintptr(unsafe.Pointer(unsafe.StringData(whole)))
	return from <= at && at < from+uintptr(len(whole))
}

func TestAnswersAreNewMemory(t *testing.T) {
	s := `SUM(c0n0!A1, "a""b","c") <> 1.5 & TRUE & #N/A`
	first, _, _ := Scan(s)
	for _, w := range first {
		if inside(w.Text, s) {
			t.Errorf("P0.3: the Text %q is a piece of the formula", w.Text)
		}
	}
	want := slices.Clone(first)
	second, _, _ := Scan(s)
	for i := range second[:cap(second)] {
		second[:cap(second)][i] = Word{Kind: -1, Text: "x", At: -1}
	}
	third, _, ok := Scan(s)
	if !ok || !slices.Equal(first, want) || !slices.Equal(third, want) {
		t.Errorf("P0.3, P0.5: %v, then %v", first, third)
	}
}

// A second answer is the same as the first, whatever was asked between.
func TestAnswersHangOnArguments(t *testing.T) {
	s, want := laid(" ", "  ", " ", pieces()[:20]...)
	checkWords(t, s, want)
	for _, w := range wrong() {
		Scan(w)
	}
	checkWords(t, s, want)
}
