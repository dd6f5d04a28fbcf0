package disk

import (
	"fmt"
	"slices"
	"strings"
	"testing"
)

// noted is a disk another way: all its units one by one, each the word for it that do reads (an Append has one byte), and how many of them stay. Its files are made anew from the first one on whenever they are asked for.
type noted struct {
	units  []string
	synced int
}

func (m *noted) do(word string) {
	switch {
	case word == "!":
		m.synced = len(m.units)
	case word[0] == '+':
		name, b, _ := strings.Cut(word, ":")
		for i := range len(b) {
			m.units = append(m.units, name+":"+b[i:i+1])
		}
	default:
		m.units = append(m.units, word)
	}
}

func (m *noted) cut(n int) *noted {
	n = min(n, len(m.units))
	n = max(n, m.synced)
	return &noted{slices.Clone(m.units[:n]), n}
}

// told is as the disk's: by a list of files, in which one that comes stands last.
func (m *noted) told() string {
	type file struct{ name, text string }
	var files []file
	find := func(name string) int {
		for i, f := range files {
			if f.name == name {
				return i
			}
		}
		return -1
	}
	drop := func(name string) {
		if i := find(name); i >= 0 {
			files = append(files[:i], files[i+1:]...)
		}
	}
	for _, u := range m.units {
		name := u[1:]
		switch from, to, is := strings.Cut(u, ">"); {
		case is:
			if i := find(from); i >= 0 {
				text := files[i].text
				drop(from)
				drop(to)
				files = append(files, file{to, text})
			}
		case u[0] == '*':
			drop(name)
			files = append(files, file{name, ""})
		case u[0] == '-':
			drop(name)
		default:
			name, b, _ := strings.Cut(name, ":")
			if find(name) < 0 {
				files = append(files, file{name, ""})
			}
			files[find(name)].text += b
		}
	}
	out := ""
	for _, name := range names {
		if i := find(name); i >= 0 {
			out += name + ":" + files[i].text + " "
		}
	}
	return out + fmt.Sprint(len(m.units))
}

// All rows of up to four words, cut at all places.
func TestAllRows(t *testing.T) {
	words := []string{"+a:x", "+a:yz", "+b:1", "*a", "*b", "-a", "-b", "a>b", "b>a", "a>a", "!"}
	var walk func(row string, left int)
	walk = func(row string, left int) {
		d, m := New(), new(noted)
		do(d, row)
		for _, word := range strings.Fields(row) {
			m.do(word)
		}
		if got, want := told(d), m.told(); got != want {
			t.Fatalf("P20.1: %s: got %s, want %s", row, got, want)
		}
		for n := -1; n < len(m.units)+2; n++ {
			if got, want := told(d.Cut(n)), m.cut(n).told(); got != want {
				t.Fatalf("P20.1: %s: Cut(%d): got %s, want %s", row, n, got, want)
			}
		}
		if left == 0 {
			return
		}
		for _, word := range words {
			walk(row+" "+word, left-1)
		}
	}
	walk("", 4)
}

// dice gives numbers that look like thrown ones, the same at each run.
type dice uint64

func (d *dice) throw(n int) int {
	*d = *d*6364136223846793005 + 1442695040888963407
	return int(uint64(*d)>>33) % n
}

func (d *dice) name() string { return names[d.throw(len(names))] }

func (d *dice) word() string {
	switch d.throw(8) {
	case 0:
		return "*" + d.name()
	case 1:
		return "-" + d.name()
	case 2, 3:
		return d.name() + ">" + d.name()
	case 4:
		return "!"
	}
	return "+" + d.name() + ":" + strings.Repeat(string(rune('a'+d.throw(26))), d.throw(9))
}

// Some disks, each cut of another one, go on side by side; none of them heeds the others.
func TestSideBySide(t *testing.T) {
	var by dice = 20
	for range 60 {
		disks, others := []*Disk{New()}, []*noted{new(noted)}
		for range 60 {
			i := by.throw(len(disks))
			if by.throw(5) == 0 {
				n := by.throw(len(others[i].units)+4) - 2
				disks, others = append(disks, disks[i].Cut(n)), append(others, others[i].cut(n))
			} else {
				word := by.word()
				do(disks[i], word)
				others[i].do(word)
			}
			for k := range disks {
				if got, want := told(disks[k]), others[k].told(); got != want {
					t.Fatalf("P20.1: disk %d of %d, behind something done to %d: got %s, want %s", k, len(disks), i, got, want)
				}
			}
		}
		for k := range disks {
			for n := -1; n < len(others[k].units)+2; n++ {
				if got, want := told(disks[k].Cut(n)), others[k].cut(n).told(); got != want {
					t.Fatalf("P20.1: disk %d of %d: Cut(%d): got %s, want %s", k, len(disks), n, got, want)
				}
			}
		}
	}
}
