package recalc

import (
	"fmt"
	"strconv"
	"testing"

	"counterpane/a1"
	"counterpane/api"
)

func ref(row, col int64) string { return a1.Print(api.Ref{Row: row, Col: col}) }

// A long chain: what evaluates all of it for each of its cells would take very long.
func TestLongChains(t *testing.T) {
	const n = 20_000
	var os []api.Op
	for i := range int64(n) {
		os = append(os, put(ref(i+1, 0), "="+ref(i, 0)+"+1"))
	}
	end := ref(n, 0)
	c := New(nil)
	for _, o := range os {
		run(t, c, 1, o)
	}
	run(t, c, n, put("A1", "5"))
	check(t, "a long chain", c, end+"="+strconv.Itoa(n+5))
	run(t, c, n, os...)
	run(t, c, 1, put("B1", "="+end))
	for range 1000 {
		run(t, c, 2, put(end, "="+ref(n-1, 0)+"*2"))
	}
	check(t, "another end", c, end+"="+strconv.Itoa(2*(n+4)), "B1="+strconv.Itoa(2*(n+4)))
	run(t, c, 0, put("A1", "=B1"))
	check(t, "a ring", c, "A1=#CYCLE! B1=#CYCLE! A2=#CYCLE!", end+"=#CYCLE!")
	for range 1000 {
		run(t, c, 0, put("C1", "=A9"), put("C1", ""))
	}
	run(t, c, n+1, put("A1", "1"))
	check(t, "a ring that is opened", c, "B1="+strconv.Itoa(2*n))
	apply(t, c, rows(first, ins(0)))
	check(t, "a line ahead", c, "A1= A2=1 B2="+strconv.Itoa(2*n))
	d := New(nil)
	run(t, d, n, os...)
	check(t, "all in one", d, end+"="+strconv.Itoa(n))
}

// Sums over all that is above them: there are many ways from the first to the last.
func TestManyWays(t *testing.T) {
	const n = 1500
	var os []api.Op
	for i := range int64(n) {
		os = append(os, put(ref(i+1, 0), "=MAX(A$1:"+ref(i, 0)+")+1"))
	}
	c := New(nil)
	run(t, c, n, os...)
	check(t, "sums", c, "A2=1", ref(n, 0)+"="+strconv.Itoa(n))
	run(t, c, n, put("A1", "7"))
	check(t, "sums", c, "A2=8", ref(n, 0)+"="+strconv.Itoa(n+7))
	run(t, c, 0, put("A1", "="+ref(n, 0)))
	check(t, "a ring", c, "A1=#CYCLE! A2=#CYCLE!", ref(n, 0)+"=#CYCLE!")
	// Beside another ring.
	run(t, c, 0, put("B1", "=B1"), put("B2", "=B1+A1"))
	run(t, c, n, put("A1", "9"))
	check(t, "sums beside a ring", c, "A2=10 B1=#CYCLE! B2=#CYCLE!", ref(n, 0)+"="+strconv.Itoa(n+9))
	run(t, c, n/2, put(ref(n/2, 0), "0"))
}

// A great table of which little hangs on each cell.
func TestGreatTable(t *testing.T) {
	const wide, high = 100, 200
	var os []api.Op
	for row := range int64(high) {
		for col := range int64(wide) {
			os = append(os, put(ref(row, col), strconv.Itoa(int(row))))
		}
		os = append(os, put(ref(row, wide), "=SUM("+ref(row, 0)+":"+ref(row, wide-1)+")"))
	}
	for col := range int64(wide + 1) {
		os = append(os, put(ref(high, col), "=SUM("+ref(0, col)+":"+ref(high-1, col)+")"))
	}
	c := New(nil)
	run(t, c, high+wide+1, os...)
	all := wide * high * (high - 1) / 2
	check(t, "a table", c, "A201=19900", "CW200=19900", "CW201="+strconv.Itoa(all))
	for range 1000 {
		run(t, c, 3, put("B2", "2"))
	}
	check(t, "a table", c, "B201=19901", "CW2=101", "A201=19900", "CW201="+strconv.Itoa(all+1))
	run(t, c, 3, put("B2", ""))
	check(t, "a table", c, "B201=19899", "CW2=99", "CW201="+strconv.Itoa(all-1))
}

// Great ranges of which few cells are not blank can't be gone through cell by cell.
func TestGreatRanges(t *testing.T) {
	end, bottom, right := ref(last, last), ref(last, 0), ref(0, last)
	c := New(nil)
	run(t, c, 4, append([]api.Op{add(other, "x")}, puts(fmt.Sprintf("A1: 1 | %s: 2 | %s: 3 | %s: 4 | B2: =SUM(A1:%s) | B3: =COUNT(C1:%s) | c1n1!A1: =SUM(c0n0!A1:%s) | c1n1!A2: =COUNT(A3:%s)", bottom, right, end, bottom, end, end, end))...)...)
	check(t, "great ranges", c, "B2=3 B3=2 c1n1!A1=15 c1n1!A2=0")
	run(t, c, 2, put(bottom, "10"))
	check(t, "great ranges", c, "B2=11 c1n1!A1=31")
	run(t, c, 3, put(ref(last, 1), "=A2"), put(ref(last-1, 0), "x"), put("A2", ""))
	check(t, "great ranges", c, "B2=11 B3=2 c1n1!A1=31", ref(last, 1)+"=")
}
