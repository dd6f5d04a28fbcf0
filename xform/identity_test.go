package xform

import (
	"fmt"
	"maps"
	"slices"
	"strings"
	"testing"

	"counterpane/a1"
	"counterpane/api"
	"counterpane/sheet"
	"counterpane/show"
)

// world is a workbook whose lines have identities of their own, so that nothing in it is ever moved or rewritten.
type world map[string]*ground

type ground struct {
	name    string
	lines   [2][]int // rows and columns, in order
	cells   map[[2]int][]piece
	formats map[[2]int]int
}

// piece is a text, and perhaps a reference or a range behind it, by its lines.
type piece struct {
	text, sheet string // an empty sheet: its own
	ends        [][2]int
}

// intent is an operation as its author means it.
type intent struct {
	o     api.Op
	made  int      // the identity of a new line
	line  int      // that of a line that goes or moves
	spots [][2]int // the cells that are set or formatted
	what  []piece
}

func newGround(name string) *ground {
	g := &ground{name: name, cells: map[[2]int][]piece{}, formats: map[[2]int]int{}}
	for i := range 60 {
		g.lines[0], g.lines[1] = append(g.lines[0], i), append(g.lines[1], i)
	}
	return g
}

func (w world) copied() world {
	out := world{}
	for id, g := range w {
		out[id] = &ground{g.name, [2][]int{slices.Clone(g.lines[0]), slices.Clone(g.lines[1])}, maps.Clone(g.cells), maps.Clone(g.formats)}
	}
	return out
}

// do does what in means; its lines, if it is on lines, are moved as l says.
func (w world) do(in intent, l api.Line) {
	if in.o.Kind == api.OAdd {
		w[in.o.Sheet] = newGround(in.o.Name)
		return
	}
	g, there := w[in.o.Sheet]
	if !there {
		return
	}
	switch in.o.Kind {
	case api.OSet, api.OFormat:
		for _, spot := range in.spots {
			if slices.Contains(g.lines[0], spot[0]) && slices.Contains(g.lines[1], spot[1]) {
				g.put(spot, in)
			}
		}
	case api.ORow, api.OCol:
		g.line(&g.lines[in.o.Kind-api.ORow], in, l)
	case api.ORename:
		g.name = in.o.Name
	case api.ORemove:
		delete(w, in.o.Sheet)
	}
}

func (g *ground) put(spot [2]int, in intent) {
	if in.o.Kind == api.OSet {
		g.cells[spot] = in.what
	} else {
		g.formats[spot] = in.o.Format
	}
}

func (g *ground) line(lines *[]int, in intent, l api.Line) {
	at, to := int(l.At), int(l.To)
	switch l.Kind {
	case api.LIns:
		*lines = slices.Insert(*lines, at, in.made)
	case api.LDel:
		*lines = slices.Delete(*lines, at, at+1)
	case api.LMove:
		moved := (*lines)[at]
		(*lines)[at] = -1
		*lines = slices.Insert(*lines, to, moved)
		gone := slices.Index(*lines, -1)
		*lines = slices.Delete(*lines, gone, gone+1)
	}
}

// told is as toldBook of a workbook.
func (w world) told() string {
	out := ""
	for _, id := range slices.Sorted(maps.Keys(w)) {
		g := w[id]
		out += id + "=" + g.name + "{"
		for _, row := range g.lines[0] {
			for _, col := range g.lines[1] {
				if text := w.written(id, g.cells[[2]int{row, col}]); text != "" {
					out += fmt.Sprintf("%d,%d:%s;", slices.Index(g.lines[0], row), slices.Index(g.lines[1], col), text)
				}
			}
		}
		for i, row := range g.lines[0] {
			for j, col := range g.lines[1] {
				if n := g.formats[[2]int{row, col}]; n != 0 {
					out += fmt.Sprintf("%d,%d#%d;", i, j, n)
				}
			}
		}
		out += "}"
	}
	return out
}

// written is the text of a cell of the sheet home.
func (w world) written(home string, what []piece) string {
	out := ""
	for _, p := range what {
		out += p.text
		if len(p.ends) > 0 {
			out += w.place(home, p)
		}
	}
	return out
}

// place is the text of a reference or a range, which is lost if a line of it, or its sheet, was taken away.
func (w world) place(home string, p piece) string {
	on := p.sheet
	if on == "" {
		on = home
	}
	g, there := w[on]
	if !there {
		return "#REF!"
	}
	var ends []string
	for i, end := range p.ends {
		row, col := slices.Index(g.lines[0], end[0]), slices.Index(g.lines[1], end[1])
		if row < 0 || col < 0 {
			return "#REF!"
		}
		r := api.Ref{Row: int64(row), Col: int64(col)}
		if i == 0 {
			r.Sheet = p.sheet
		}
		ends = append(ends, a1.Print(r))
	}
	return strings.Join(ends, ":")
}

// dice is a row of numbers that are the same in each run.
type dice uint64

func (d *dice) roll(n int) int {
	*d = *d*6364136223846793005 + 1442695040888963407
	return int(uint64(*d)>>33) % n
}

// author makes intents, each in his view.
type author struct {
	*dice
	view world
	name int // of his sheets and lines
	made int
}

func (a *author) id() string { return slices.Sorted(maps.Keys(a.view))[a.roll(len(a.view))] }

// spot is a cell of a sheet.
func (a *author) spot(id string) ([2]int, [2]int64) {
	row, col := a.roll(7), a.roll(6)
	return [2]int{a.view[id].lines[0][row], a.view[id].lines[1][col]}, [2]int64{int64(row), int64(col)}
}

func (a *author) formula(home string) []piece {
	var out []piece
	for i := range 1 + a.roll(3) {
		p := piece{text: []string{"+", "*", "&", "<=", "-"}[a.roll(5)]}
		if i == 0 {
			p.text = "="
		}
		on := home
		if a.roll(2) == 0 {
			on = a.id()
			p.sheet = on
		}
		for range 1 + a.roll(2) {
			spot, _ := a.spot(on)
			p.ends = append(p.ends, spot)
		}
		out = append(out, p)
	}
	return out
}

func (a *author) set(id string) intent {
	spot, at := a.spot(id)
	in := intent{spots: [][2]int{spot}, what: []piece{{text: []string{"", "", "7", "x", "#N/A"}[a.roll(5)]}}}
	if a.roll(3) > 0 {
		in.what = a.formula(id)
	}
	c, _ := show.Read(a.view.written(id, in.what))
	in.o = api.Op{Kind: api.OSet, Sheet: id, Row: at[0], Col: at[1], Cell: c}
	return in
}

func (a *author) format(id string) intent {
	_, from := a.spot(id)
	r := api.Rect{R0: from[0], C0: from[1], R1: from[0] + 1 + int64(a.roll(4)), C1: from[1] + 1 + int64(a.roll(4))}
	in := intent{o: api.Op{Kind: api.OFormat, Sheet: id, Rects: []api.Rect{r}, Format: a.roll(4)}}
	for row := r.R0; row < r.R1; row++ {
		for col := r.C0; col < r.C1; col++ {
			in.spots = append(in.spots, [2]int{a.view[id].lines[0][row], a.view[id].lines[1][col]})
		}
	}
	return in
}

func (a *author) lineOf(id string) intent {
	way := a.roll(2)
	l := api.Line{Kind: 1 + a.roll(3), At: int64(a.roll(7))}
	if l.Kind == api.LMove {
		for l.To = l.At; l.To == l.At || l.To == l.At+1; {
			l.To = int64(a.roll(8))
		}
	}
	a.made++
	return intent{o: api.Op{Kind: api.ORow + way, Sheet: id, Line: l}, made: a.name*1000 + a.made, line: a.view[id].lines[way][l.At]}
}

func (a *author) intent() intent {
	id := a.id()
	switch n := a.roll(30); {
	case n < 11:
		return a.set(id)
	case n < 20:
		return a.lineOf(id)
	case n < 25:
		return a.format(id)
	case n < 27:
		return intent{o: api.Op{Kind: api.ORename, Sheet: id, Name: fmt.Sprint("n", a.roll(90))}}
	case n < 29 || len(a.view) == 1:
		a.made++
		return intent{o: api.Op{Kind: api.OAdd, Sheet: fmt.Sprintf("c%dn%d", a.name, a.made), Name: "new"}}
	}
	return intent{o: api.Op{Kind: api.ORemove, Sheet: id}}
}

// intents are some, each done in the author's view.
func (a *author) intents(n int) []intent {
	var out []intent
	for range n {
		in := a.intent()
		a.view.do(in, in.o.Line)
		out = append(out, in)
	}
	return out
}

func meant(ins []intent) []api.Op {
	var out []api.Op
	for _, in := range ins {
		out = append(out, in.o)
	}
	return out
}

// both is start behind the prior ones, and the later ones as they are meant; where lines go is told by what the later ones became.
func both(t *testing.T, start world, prior, later []intent, became []from) world {
	w := start.copied()
	for _, in := range prior {
		w.do(in, in.o.Line)
	}
	for k, in := range later {
		i := slices.IndexFunc(became, func(f from) bool { return f.k == k })
		if in.o.Kind != api.ORow && in.o.Kind != api.OCol {
			w.do(in, api.Line{})
			continue
		}
		g, there := w[in.o.Sheet]
		if !there {
			continue
		}
		lines := g.lines[in.o.Kind-api.ORow]
		at := slices.Index(lines, in.line)
		if i >= 0 {
			l := became[i].o.Line
			if in.o.Line.Kind != api.LIns && int(l.At) != at {
				t.Fatalf("C2: %s became %s, which is of another line", say(in.o), say(became[i].o))
			}
			w.do(in, l)
		} else if in.o.Line.Kind == api.LIns || in.o.Line.Kind == api.LDel && at >= 0 {
			t.Fatalf("C2: %s became none, though it has something to do", say(in.o))
		}
	}
	return w
}

// Lists by dice, as their authors mean them: both orders, the table of squares, and lines with identities of their own.
func TestIntents(t *testing.T) {
	d := dice(18)
	nones, rounds := 0, 5000
	for round := range rounds {
		start := world{first: newGround("Sheet")}
		book := sheet.New()
		maker := author{dice: &d, view: start, name: 1}
		if ops := meant(maker.intents(d.roll(14))); book.Apply(ops...) != len(ops) {
			t.Fatal("the test's own workbook is not made")
		}
		a, b := author{&d, start.copied(), 2, 0}, author{&d, start.copied(), 3, 0}
		as, bs := a.intents(1+d.roll(7)), b.intents(1+d.roll(7))
		prior := d.roll(2) == 0
		end := bothOrders(t, book, meant(as), meant(bs), prior)
		a2, b2 := againstSquares(t, meant(as), meant(bs), prior)
		var want world
		if prior {
			want = both(t, start, as, bs, b2)
		} else {
			want = both(t, start, bs, as, a2)
		}
		if got := toldBook(end); got != want.told() {
			t.Fatalf("C2: round %d: %q and %q, prior %v, leave %s; want %s", round, sayAll(meant(as)), sayAll(meant(bs)), prior, got, want.told())
		}
		if len(a2)+len(b2) < len(as)+len(bs) {
			nones++
		}
	}
	if nones < rounds/4 {
		t.Errorf("the test's own lists lose an operation just %d times", nones)
	}
}

// Long lists of what lies close together.
func TestLongIntents(t *testing.T) {
	d := dice(180)
	for range 12 {
		start := world{first: newGround("Sheet")}
		book := sheet.New()
		a, b := author{&d, start.copied(), 2, 0}, author{&d, start.copied(), 3, 0}
		as, bs := a.intents(32), b.intents(32)
		if len(a.view) > 8 || len(b.view) > 8 {
			continue
		}
		end := bothOrders(t, book, meant(as), meant(bs), true)
		_, b2 := againstSquares(t, meant(as), meant(bs), true)
		if got, want := toldBook(end), both(t, start, as, bs, b2).told(); got != want {
			t.Fatalf("C2: %q and %q leave %s; want %s", sayAll(meant(as)), sayAll(meant(bs)), got, want)
		}
	}
}
