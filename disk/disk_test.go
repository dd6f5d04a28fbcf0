package disk

import (
	"fmt"
	"slices"
	"strings"
	"testing"
)

// names are those that told looks at.
var names = []string{"", "a", "b", "c", "d"}

// told is all that a disk answers: its files that are there, and its units.
func told(d *Disk) string {
	out := ""
	for _, name := range names {
		if b, there := d.Read(name); there {
			out += fmt.Sprintf("%s:%s ", name, b)
		} else if len(b) != 0 {
			out += fmt.Sprintf("%s is not there, but %q ", name, b)
		}
	}
	return out + fmt.Sprint(d.Units())
}

// done is a new disk behind all that the words say, each of them a call: +name:bytes, *name (Create), name>name, -name, ! (Sync).
func done(words string) *Disk {
	d := New()
	do(d, words)
	return d
}

func do(d *Disk, words string) {
	for _, word := range strings.Fields(words) {
		name := word[1:]
		switch from, to, is := strings.Cut(word, ">"); {
		case is:
			d.Rename(from, to)
		case word[0] == '+':
			name, b, _ := strings.Cut(name, ":")
			d.Append(name, []byte(b))
		case word[0] == '*':
			d.Create(name)
		case word[0] == '-':
			d.Remove(name)
		case word == "!":
			d.Sync()
		default:
			panic("no such word: " + word)
		}
	}
}

func TestFiles(t *testing.T) {
	for _, c := range []struct{ what, words, want string }{
		{"Append", "", "0"},
		{"Append", "+a:xyz", "a:xyz 3"},
		{"Append", "+a:xyz +a:12", "a:xyz12 5"},
		{"Append", "+a:x +b:12 +a:y +c:3 +b:4", "a:xy b:124 c:3 6"},
		{"Append", "+:xy", ":xy 2"},
		{"Append of no bytes", "+a:", "0"},
		{"Append of no bytes", "+a:x +a: +b:", "a:x 1"},
		{"Append of no bytes", "*a +a:", "a: 1"},
		{"Append of no bytes", "+a:x -a +a:", "2"},
		{"Create", "*a", "a: 1"},
		{"Create", "* *a", ": a: 2"},
		{"Create", "*a +a:xy", "a:xy 3"},
		{"Create of a file that has bytes", "+a:xy +b:z *a", "a: b:z 4"},
		{"Create of a file that has bytes", "+a:xy *a +a:z", "a:z 4"},
		{"Create of an empty file", "*a *a", "a: 2"},
		{"Rename", "+a:xy a>b", "b:xy 3"},
		{"Rename", "*a a>b", "b: 2"},
		{"Rename", "+a:xy a>b +a:z +b:1", "a:z b:xy1 5"},
		{"Rename", "+a:xy a> >b", "b:xy 4"},
		{"Rename over another", "+a:xy +b:123 +c:4 a>b", "b:xy c:4 7"},
		{"Rename over another", "+a:xy *b b>a", "a: 4"},
		{"Rename over another", "+a:xy +b:1 a>b +b:2 b>a", "a:xy2 6"},
		{"Rename round", "+a:1 +b:2 a>c b>a c>b", "a:2 b:1 5"},
		{"Rename of a file that is not there", "a>b", "1"},
		{"Rename of a file that is not there", "+b:xy a>b", "b:xy 3"},
		{"Rename of a file that is not there", "+b:xy -b +a:z b>a", "a:z 5"},
		{"Rename of a file that is not there to its own name", "+b:xy a>a", "b:xy 3"},
		{"Rename of a file to its own name", "+a:xy a>a", "a:xy 3"},
		{"Rename of a file to its own name", "+a:xy a>a +a:z a>a", "a:xyz 5"},
		{"Remove", "+a:xy +b:z -a", "b:z 4"},
		{"Remove", "*a -a", "2"},
		{"Remove of a file that is not there", "-a", "1"},
		{"Remove of a file that is not there", "+a:xy -b -a -a", "5"},
		{"a file that is made again", "+a:xy -a +a:z", "a:z 4"},
		{"a file that is made again", "+a:xy -a *a", "a: 4"},
		{"a file that is made again", "+a:xy a>b -b +b:1 +a:2", "a:2 b:1 6"},
		{"Sync", "! +a:xy ! ! +a:z *b !", "a:xyz b: 4"},
		{"Sync", "+a:xy ! -a ! +a:1 a>b ! b>c", "c:1 6"},
	} {
		if got := told(done(c.words)); got != c.want {
			t.Errorf("P20.1: %s: %s: got %s, want %s", c.what, c.words, got, c.want)
		}
	}
}

// What each call adds to the units, whatever stands there.
func TestUnits(t *testing.T) {
	for _, ahead := range []string{"", "+a:xyz", "*a", "+a:xyz !", "+a:x +b:y", "+a:x -a"} {
		for words, want := range map[string]int{
			"+a:": 0, "+a:1": 1, "+a:12": 2, "+b:" + strings.Repeat("7", 1000): 1000,
			"*a": 1, "*b": 1, "-a": 1, "-b": 1, "a>b": 1, "b>a": 1, "a>a": 1, "c>c": 1, "!": 0,
			"+a:1 *a a>b -b ! -b": 5,
		} {
			d := done(ahead)
			was := d.Units()
			do(d, words)
			if got := d.Units() - was; got != want {
				t.Errorf("P20.1: behind %q, %q: %d units, want %d", ahead, words, got, want)
			}
			d.Read("a")
			d.Cut(0)
			d.Cut(d.Units())
			if d.Units() != was+want {
				t.Errorf("P20.1: behind %q, %q: Read and Cut took units", ahead, words)
			}
		}
	}
}

// Each row's texts are what Cut answers for 0, 1, 2 and so on.
var cuts = []struct {
	words string
	want  []string
}{
	{"", []string{"0"}},
	{"!", []string{"0"}},
	{"+a:xyz", []string{"0", "a:x 1", "a:xy 2", "a:xyz 3"}},
	{"+a:xy +a: +a:z", []string{"0", "a:x 1", "a:xy 2", "a:xyz 3"}},
	{"*a", []string{"0", "a: 1"}},
	{"+a:xy *a +a:1", []string{"0", "a:x 1", "a:xy 2", "a: 3", "a:1 4"}},
	{"+a:xy -a +a:z", []string{"0", "a:x 1", "a:xy 2", "3", "a:z 4"}},
	{"+a:xy a>b +a:z", []string{"0", "a:x 1", "a:xy 2", "b:xy 3", "a:z b:xy 4"}},
	{"+a:xy +b:1 a>b", []string{"0", "a:x 1", "a:xy 2", "a:xy b:1 3", "b:xy 4"}},
	{"+a:x a>b b>c c>a", []string{"0", "a:x 1", "b:x 2", "c:x 3", "a:x 4"}},
	{"+a:x a>a +a:y", []string{"0", "a:x 1", "a:x 2", "a:xy 3"}},
	{"a>b -a +b:x", []string{"0", "1", "2", "b:x 3"}},
	{"+b:x a>b +b:y", []string{"0", "b:x 1", "b:x 2", "b:xy 3"}},
	{"+a:xy +b:12 +a:z +b:3", []string{"0", "a:x 1", "a:xy 2", "a:xy b:1 3", "a:xy b:12 4", "a:xyz b:12 5", "a:xyz b:123 6"}},
	{"+a:xy ! +a:z1", []string{"a:xy 2", "a:xy 2", "a:xy 2", "a:xyz 3", "a:xyz1 4"}},
	{"+a:xy ! *a", []string{"a:xy 2", "a:xy 2", "a:xy 2", "a: 3"}},
	{"+a:xy ! -a", []string{"a:xy 2", "a:xy 2", "a:xy 2", "3"}},
	{"+a:xy +b:1 ! a>b", []string{"a:xy b:1 3", "a:xy b:1 3", "a:xy b:1 3", "a:xy b:1 3", "b:xy 4"}},
	{"+a:x ! +b:y ! -a", []string{"a:x b:y 2", "a:x b:y 2", "a:x b:y 2", "b:y 3"}},
	{"*a -a !", []string{"2", "2", "2"}},
	{"+new:ab new>a +a:c ! +b:12 b>a", []string{"a:abc 4", "a:abc 4", "a:abc 4", "a:abc 4", "a:abc 4", "a:abc b:1 5", "a:abc b:12 6", "a:12 7"}},
}

func TestCut(t *testing.T) {
	for _, c := range cuts {
		d := done(c.words)
		last := len(c.want) - 1
		if d.Units() != last {
			t.Fatalf("P20.1: %s: %d units, want %d", c.words, d.Units(), last)
		}
		for n := -3; n < last+4; n++ {
			want := c.want[min(max(n, 0), last)]
			cut := d.Cut(n)
			if got := told(cut); got != want {
				t.Errorf("P20.1: %s: Cut(%d): got %s, want %s", c.words, n, got, want)
			}
			if got := told(d); got != c.want[last] {
				t.Errorf("P20.1: %s: behind Cut(%d) the disk has %s, want %s", c.words, n, got, c.want[last])
			}
			checkStays(t, c.words, cut, want)
		}
	}
}

// What was cut stays there: to cut it again, to whatever, changes nothing.
func checkStays(t *testing.T, words string, cut *Disk, want string) {
	t.Helper()
	for n := -1; n < cut.Units()+3; n++ {
		if got := told(cut.Cut(n)); got != want {
			t.Errorf("P20.1: %s: cut to %s, and again to %d: got %s", words, want, n, got)
		}
	}
}

// What is done to a disk that was cut can be cut away again, but not what it was cut to.
func TestCutOfCut(t *testing.T) {
	d := done("+a:xyz +b:12")
	c := d.Cut(4)
	do(c, "+b:34 a>c")
	for n, want := range []string{4: "a:xyz b:1 4", 5: "a:xyz b:13 5", 6: "a:xyz b:134 6", 7: "b:134 c:xyz 7", 8: "b:134 c:xyz 7"} {
		if n < 4 {
			want = "a:xyz b:1 4"
		}
		if got := told(c.Cut(n)); got != want {
			t.Errorf("P20.1: Cut(%d) of what was cut and went on: got %s, want %s", n, got, want)
		}
	}
	e := c.Cut(5)
	do(e, "*a !")
	do(e, "-b")
	for n, want := range map[int]string{0: "a: b:13 6", 5: "a: b:13 6", 6: "a: b:13 6", 7: "a: 7"} {
		if got := told(e.Cut(n)); got != want {
			t.Errorf("P20.1: Cut(%d) of a cut of a cut: got %s, want %s", n, got, want)
		}
	}
	if got := told(d) + ", " + told(c); got != "a:xyz b:12 5, b:134 c:xyz 7" {
		t.Errorf("P20.1: the disks that were cut: %s", got)
	}
}

// To sync again and again keeps the last one alone.
func TestSyncs(t *testing.T) {
	d := New()
	var want string
	for i := range 100 {
		do(d, "+a:x")
		if i%7 == 3 {
			d.Sync()
			d.Sync()
			want = told(d)
		}
		if want != "" && (told(d.Cut(0)) != want || told(d.Cut(i-7)) != want) {
			t.Fatalf("P20.1: behind %d bytes: cut to %s, want %s", i+1, told(d.Cut(0)), want)
		}
		if got := told(d.Cut(d.Units() + 1)); got != told(d) {
			t.Fatalf("P20.1: behind %d bytes: cut to %s, want %s", i+1, got, told(d))
		}
	}
}

// All names are names: told apart by each byte.
func TestNames(t *testing.T) {
	d := New()
	all := []string{"", " ", "a", "A", "a ", "aa", "a/b", "/", ".", "..", "a\x00", "\x00", "\xff", "\xff\xfe", "\u00e9", "e\u0301", strings.Repeat("n", 1<<16), strings.Repeat("n", 1<<16+1)}
	for i, name := range all {
		if b, there := d.Read(name); there || len(b) != 0 {
			t.Fatalf("P20.1: %.20q is there ahead of its making", name)
		}
		d.Append(name, []byte{byte(i), 0, 255})
	}
	for i, name := range all {
		if b, there := d.Read(name); !there || !slices.Equal(b, []byte{byte(i), 0, 255}) {
			t.Errorf("P20.1: %.20q: % x, %v", name, b, there)
		}
	}
	if d.Units() != 3*len(all) {
		t.Errorf("P20.1: %d units", d.Units())
	}
	for i, name := range all {
		d.Remove(name)
		if _, there := d.Read(name); there {
			t.Errorf("P20.1: %.20q is there behind Remove", name)
		}
		if b, there := d.Cut(d.Units() - 1).Read(name); !there || len(b) != 3 || b[0] != byte(i) {
			t.Errorf("P20.1: %.20q ahead of Remove: % x, %v", name, b, there)
		}
	}
}
