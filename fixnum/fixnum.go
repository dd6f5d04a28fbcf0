// Package fixnum: fixed-point decimals: see doc/01-fixnum.md.
package fixnum

import (
	"math"
	"math/bits"
	"strconv"
	"strings"

	"counterpane/api"
)

// one is the Fix that stands for 1.
const one = 10_000

// places are the digits behind the point, none of them written.
const places = "0000"

// leastSize is the size of the least Fix, one more than that of the greatest.
const leastSize = 1 << 63

// Add is a + b; 0, false: beyond.
func Add(a, b api.Fix) (api.Fix, bool) {
	if b > 0 && a > math.MaxInt64-b || b < 0 && a < math.MinInt64-b {
		return 0, false
	}
	return a + b, true
}

// Sub is a - b; 0, false: beyond. (It isn't Add of -b, which the least Fix has not.)
func Sub(a, b api.Fix) (api.Fix, bool) {
	if b > 0 && a < math.MinInt64+b || b < 0 && a > math.MaxInt64+b {
		return 0, false
	}
	return a - b, true
}

// Mul is a times b, cut towards zero; 0, false: beyond.
func Mul(a, b api.Fix) (api.Fix, bool) {
	high, low := bits.Mul64(size(a), size(b))
	return quotient(high, low, one, (a < 0) != (b < 0))
}

// Div is a by b, cut towards zero; 0, false: b is 0, or beyond.
func Div(a, b api.Fix) (api.Fix, bool) {
	if b == 0 {
		return 0, false
	}
	high, low := bits.Mul64(size(a), one)
	return quotient(high, low, size(b), (a < 0) != (b < 0))
}

// Sum is the sum of all; 0, false: the whole of it is beyond.
func Sum(l ...api.Fix) (api.Fix, bool) {
	// Two words hold what is between, so that the order of l is not to be seen.
	high, low := int64(0), uint64(0)
	for _, a := range l {
		sum, carry := bits.Add64(low, uint64(a), 0)
		low = sum
		high += signWord(int64(a)) + int64(carry)
	}
	if high != signWord(int64(low)) {
		return 0, false
	}
	return api.Fix(low), true
}

// Parse reads the text of a number; 0, false: it is none, or beyond.
func Parse(s string) (api.Fix, bool) {
	text, negative := strings.CutPrefix(s, "-")
	whole, part, point := strings.Cut(text, ".")
	if !isWhole(whole) || point && !isPart(part) {
		return 0, false
	}
	n, ok := readDigits(whole + part + places[len(part):])
	if !ok {
		return 0, false
	}
	return signed(n, negative)
}

// Print is the shortest text that Parse reads as a.
func Print(a api.Fix) string {
	n := size(a)
	text := strconv.FormatUint(n/one, 10) + printPart(n%one)
	if a < 0 {
		return "-" + text
	}
	return text
}

// Int is n whole ones; 0, false: beyond.
func Int(n int64) (api.Fix, bool) {
	if n > math.MaxInt64/one || n < math.MinInt64/one {
		return 0, false
	}
	return api.Fix(n * one), true
}

// size is a without its sign. The least Fix has no negative, so it is met one step nearer to 0.
func size(a api.Fix) uint64 {
	if a < 0 {
		return uint64(-(a + 1)) + 1
	}
	return uint64(a)
}

// signed is the Fix of a size and a sign; 0, false: beyond.
func signed(n uint64, negative bool) (api.Fix, bool) {
	switch {
	case n < leastSize && negative:
		return -api.Fix(n), true
	case n < leastSize:
		return api.Fix(n), true
	case n == leastSize && negative:
		return math.MinInt64, true
	}
	return 0, false
}

// quotient cuts two words by a divisor that is not 0; 0, false: beyond.
func quotient(high, low, by uint64, negative bool) (api.Fix, bool) {
	// Here Div64 would panic: the quotient needs more than one word.
	if high >= by {
		return 0, false
	}
	n, _ := bits.Div64(high, low, by)
	return signed(n, negative)
}

// signWord is the word that stands ahead of n when n is written in two words.
func signWord(n int64) int64 {
	if n < 0 {
		return -1
	}
	return 0
}

// isWhole says whether s may stand ahead of the point.
func isWhole(s string) bool {
	return s == "0" || s != "" && s[0] != '0' && allDigits(s)
}

// isPart says whether s may stand behind the point.
func isPart(s string) bool {
	return s != "" && len(s) <= len(places) && allDigits(s)
}

func allDigits(s string) bool {
	for k := range len(s) {
		if s[k] < '0' || s[k] > '9' {
			return false
		}
	}
	return true
}

// readDigits is the number that digits write; 0, false: no Fix has that size.
func readDigits(s string) (uint64, bool) {
	n := uint64(0)
	for k := range len(s) {
		// Below this bound the next digit has room in a word.
		if n > leastSize/10 {
			return 0, false
		}
		n = n*10 + uint64(s[k]-'0')
	}
	return n, true
}

// printPart writes so many ten-thousandths, less than one, with the point ahead.
func printPart(n uint64) string {
	if n == 0 {
		return ""
	}
	// The one ahead keeps the noughts behind the point; it is cut off again.
	digits := strconv.FormatUint(one+n, 10)[1:]
	return "." + strings.TrimRight(digits, "0")
}
