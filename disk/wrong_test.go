package disk

import (
	"bytes"
	"fmt"
	"math"
	"strings"
	"testing"
)

func TestNilDisk(t *testing.T) {
	var d *Disk
	for range 2 {
		do(d, "+a:xyz *a a>b a>a -a !")
		d.Append("a", nil)
		d.Append("", []byte{})
		if got := told(d); got != "0" {
			t.Errorf("P20.1: of a nil disk: %s", got)
		}
		for _, n := range []int{math.MinInt, -1, 0, 1, math.MaxInt} {
			if d.Cut(n) != nil {
				t.Errorf("P20.1: Cut(%d) of a nil disk is none", n)
			}
		}
	}
}

// A disk that New did not make is as one that it made.
func TestZeroDisk(t *testing.T) {
	for _, words := range []string{"", "!", "+a:xy", "+a:", "*a", "-a", "a>b", "a>a", "-a +a:xy a>b ! *b"} {
		var d Disk
		do(&d, words)
		if got, want := told(&d), told(done(words)); got != want {
			t.Errorf("P20.1: a zero disk: %s: got %s, want %s", words, got, want)
		}
		for n := -1; n < d.Units()+2; n++ {
			if got, want := told(d.Cut(n)), told(done(words).Cut(n)); got != want {
				t.Errorf("P20.1: a zero disk: %s: Cut(%d): got %s, want %s", words, n, got, want)
			}
		}
	}
}

func TestNoBytes(t *testing.T) {
	for what, b := range map[string][]byte{"nil": nil, "empty": {}, "empty with spare room": make([]byte, 0, 9), "the front of some": []byte("abc")[:0]} {
		for _, words := range []string{"", "+a:x", "*a", "+:x"} {
			d := done(words)
			d.Append("a", b)
			d.Append("", b)
			if got, want := told(d), told(done(words)); got != want {
				t.Errorf("P0.4: behind %q, Append of a list that is %s: got %s, want %s", words, what, got, want)
			}
		}
	}
}

func TestAnyNumber(t *testing.T) {
	for _, c := range []struct{ words, least, most string }{
		{"", "0", "0"},
		{"+a:xy", "0", "a:xy 2"},
		{"+a:xy ! +a:z -a", "a:xy 2", "4"},
	} {
		d := done(c.words)
		for _, n := range []int{math.MinInt, math.MinInt + 1, math.MinInt32, -1 << 40, -1000, -1} {
			if got := told(d.Cut(n)); got != c.least {
				t.Errorf("P20.1: %s: Cut(%d): got %s, want %s", c.words, n, got, c.least)
			}
		}
		for _, n := range []int{1000, math.MaxInt32, 1 << 32, 1<<32 + 1, 1 << 40, math.MaxInt - 1, math.MaxInt} {
			if got := told(d.Cut(n)); got != c.most {
				t.Errorf("P20.1: %s: Cut(%d): got %s, want %s", c.words, n, got, c.most)
			}
		}
	}
}

// overwrite changes all that a list holds, and all that it has room for.
func overwrite(b []byte) {
	b = b[:cap(b)]
	for i := range b {
		b[i] ^= 0x55
	}
}

func TestArgumentsChangedAfterwards(t *testing.T) {
	b := append(make([]byte, 0, 40), "xyz"...)
	copy(b[:cap(b)][3:], "spare room")
	was := bytes.Clone(b[:cap(b)])
	d := New()
	d.Append("a", b)
	d.Append("a", b)
	d.Append("b", b)
	if !bytes.Equal(b[:cap(b)], was) {
		t.Errorf("P0.3: Append changed its argument to %q", b[:cap(b)])
	}
	overwrite(b)
	if got := told(d); got != "a:xyzxyz b:xyz 9" {
		t.Errorf("P20.1: behind a change of what was appended: %s", got)
	}
	if got := told(d.Cut(4)); got != "a:xyzx 4" {
		t.Errorf("P20.1: behind a change of what was appended: cut to %s", got)
	}
	d.Append("c", append([]byte(nil), was[:3]...))
	cut := d.Cut(100)
	overwrite(was)
	if got := told(cut); got != "a:xyzxyz b:xyz c:xyz 12" {
		t.Errorf("P20.1: behind a change of what was appended: %s", got)
	}
}

func TestAnswersChanged(t *testing.T) {
	for n := range 70 {
		text := strings.Repeat("x", n)
		d := done("*a +a:" + text + " ! +a:yz")
		want := told(d)
		one, _ := d.Read("a")
		two, _ := d.Read("a")
		overwrite(one)
		if got := text + "yz"; string(two) != got || told(d) != want {
			t.Fatalf("P0.3: what Read answered was changed: then it had %s, and the disk %s", two, told(d))
		}
		_ = append(two, "beyond"...)
		d.Append("a", []byte("12"))
		_ = append(two, "beyond"...)
		overwrite(two)
		if got, _ := d.Read("a"); string(got) != text+"yz12" {
			t.Fatalf("P0.3: what Read answered was changed and grew: then the disk had %s", got)
		}
		if got, _ := d.Cut(n + 2).Read("a"); string(got) != text+"y" {
			t.Fatalf("P0.3: what Read answered was changed and grew: then a cut had %s", got)
		}
		d.Remove("a")
		if got := string(one) + string(two); strings.ContainsAny(got, "xyz") {
			t.Fatalf("P0.3: what Read answered is changed to %s", got)
		}
	}
}

// An answer stays as it was, whatever the disk is told behind it.
func TestAnswersStay(t *testing.T) {
	d := done("+a:xyz")
	b, _ := d.Read("a")
	do(d, "+a:12 a>b *a +a:9 -b ! -a")
	if string(b) != "xyz" {
		t.Errorf("P0.3: what Read answered became %s", b)
	}
}

// Of a disk and what was cut of it, at all places, each goes on in all ways; the other one stays as it was, and so does what further cuts of it are.
func TestOneGoesOn(t *testing.T) {
	further := []string{"+a:12", "+a:1234567890123456789012345678901234567890", "+b:12", "*a", "*b", "-a", "-b", "a>b", "b>a", "a>a", "a>d", "!", "-a +a:34 ! *b", "+a:12 +b:3 ! +a:4"}
	for _, words := range []string{"+a:xyz", "+a:xyz ! +a:uvw", "+a:xyz +b:12 a>b", "+a:xyz +a:u *a +a:v", "+a:xyz -a +b:12", "+a:x +a:y +a:z +b:1 ! +b:2 b>a"} {
		for n := -1; n < done(words).Units()+1; n++ {
			for _, more := range further {
				d := done(words)
				c := d.Cut(n)
				checkOther(t, fmt.Sprintf("%s: cut to %d", words, n), c, d, more)
				d = done(words)
				c = d.Cut(n)
				checkOther(t, fmt.Sprintf("%s: what was cut to %d", words, n), d, c, more)
				checkOther(t, fmt.Sprintf("%s: one of two cuts to %d", words, n), d.Cut(n), d.Cut(n), more)
			}
		}
	}
}

// checkOther has one go on, and asks it and the other, which goes on behind it, what they are.
func checkOther(t *testing.T, what string, other, one *Disk, more string) {
	t.Helper()
	want := allCuts(other)
	do(one, more)
	went := allCuts(one)
	if got := allCuts(other); got != want {
		t.Fatalf("P20.1: %s: %s done to the other one: got %s, want %s", what, more, got, want)
	}
	do(other, "+a:!! +b:?? a>c *a")
	if got := allCuts(one); got != went {
		t.Fatalf("P20.1: %s: behind %s the other one went on: got %s, want %s", what, more, got, went)
	}
}

// allCuts tells a disk and what it is when it is cut, to each number of units.
func allCuts(d *Disk) string {
	out := told(d)
	for n := range d.Units() + 1 {
		out += ", " + told(d.Cut(n))
	}
	return out
}

func TestSameAnswerAgain(t *testing.T) {
	words := "+a:xy ! +b:12 a>b +a:3 -c *d"
	one, two := done(words), done(words)
	for range 3 {
		for range 3 {
			one.Read("a")
			one.Read("q")
			one.Cut(3).Remove("b")
			one.Units()
		}
		if allCuts(one) != allCuts(two) {
			t.Fatalf("P0.5: the same was told: %s, and %s", allCuts(one), allCuts(two))
		}
		do(one, "+a:x")
		do(two, "+a:x")
	}
}

// Great files, many calls, and many of Sync: each call ends soon.
func TestLong(t *testing.T) {
	d := New()
	const n = 1 << 18
	for i := range n {
		d.Append("log", []byte{byte(i), byte(i >> 8), byte(i >> 16)})
		d.Sync()
	}
	d.Append("log", bytes.Repeat([]byte{7}, 1<<24))
	for i := range n {
		d.Append("a", []byte{byte(i)})
		d.Append("b", []byte{byte(i >> 8)})
	}
	if want := 5*n + 1<<24; d.Units() != want {
		t.Errorf("P20.1: %d units, want %d", d.Units(), want)
	}
	for _, c := range []struct {
		at, log, a, b int
	}{
		{0, 3 * n, 0, 0},
		{3*n + 1, 3*n + 1, 0, 0},
		{3*n + 1<<24, 3*n + 1<<24, 0, 0},
		{3*n + 1<<24 + 7, 3*n + 1<<24, 4, 3},
		{5*n + 1<<24, 3*n + 1<<24, n, n},
	} {
		cut := d.Cut(c.at)
		log, _ := cut.Read("log")
		a, _ := cut.Read("a")
		b, _ := cut.Read("b")
		if len(log) != c.log || len(a) != c.a || len(b) != c.b {
			t.Errorf("P20.1: Cut(%d): %d, %d and %d bytes, want %d, %d and %d", c.at, len(log), len(a), len(b), c.log, c.a, c.b)
		}
		if i := 3 * 100_000; !bytes.Equal(log[i:i+3], []byte{0xa0, 0x86, 1}) {
			t.Errorf("P20.1: Cut(%d): the bytes at %d are % x", c.at, i, log[i:i+3])
		}
	}
	for i := range 1000 {
		name := strings.Repeat("f", i)
		d.Create(name)
		d.Rename(name, name+"f")
	}
	if b, there := d.Read(strings.Repeat("f", 1000)); !there || len(b) != 0 {
		t.Errorf("P20.1: a file of a long name: %d bytes, %v", len(b), there)
	}
}
