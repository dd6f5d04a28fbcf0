package sheet

import (
	"fmt"
	"slices"
	"strings"
	"testing"

	"counterpane/api"
	"counterpane/show"
)

// model is a workbook another way: all in lists, lines that are moved by moving them in a list, and formulas as texts
// between which places of references are kept.
type model struct {
	sheets []modelSheet
	used   []string
}

type modelSheet struct {
	id, name string
	cells    []modelCell
	formats  []modelFormat
}

type modelCell struct {
	row, col int64
	formula  []piece
}

type modelFormat struct {
	row, col int64
	format   int
}

// piece is a text, or a reference or a range of a sheet (empty: its own), with a text ahead of it.
type piece struct {
	text  string
	sheet string
	ends  [][2]int64
	lost  bool
}

// step is an operation; what an OSet sets is told by its pieces too.
type step struct {
	o       api.Op
	formula []piece
}

func (p piece) String() string {
	if p.lost {
		return p.text + "#REF!"
	}
	out := p.text
	if p.sheet != "" {
		out += p.sheet + "!"
	}
	for i, end := range p.ends {
		if i > 0 {
			out += ":"
		}
		out += fmt.Sprintf("%c%d", 'A'+rune(end[1]), end[0]+1)
	}
	return out
}

func written(formula []piece) string {
	out := ""
	for _, p := range formula {
		out += p.String()
	}
	return out
}

// setStep is an OSet of what its pieces say.
func setStep(id string, row, col int64, formula ...piece) step {
	return step{set(id, row, col, written(formula)), formula}
}

func at(text, sheet string, ends ...[2]int64) piece {
	return piece{text: text, sheet: sheet, ends: ends}
}

// modelLine is where l sends line i, by doing it on a list of lines; -1: nowhere.
func modelLine(l api.Line, i int64) int64 {
	var list []int64
	for n := range int64(60) {
		list = append(list, n)
	}
	switch l.Kind {
	case api.LIns:
		list = slices.Insert(list, int(l.At), -1)
	case api.LDel:
		list = slices.Delete(list, int(l.At), int(l.At)+1)
	case api.LMove:
		list = slices.Insert(list, int(l.To), l.At+1000)
		from := slices.Index(list, l.At)
		list = slices.Delete(list, from, from+1)
		list[slices.Index(list, l.At+1000)] = l.At
	}
	return int64(slices.Index(list, i))
}

func (m *model) find(id string) int {
	return slices.IndexFunc(m.sheets, func(s modelSheet) bool { return s.id == id })
}

func newModel() *model {
	return &model{sheets: []modelSheet{{id: first, name: "Sheet"}}, used: []string{first}}
}

func (m *model) copied() *model {
	out := &model{used: slices.Clone(m.used)}
	for _, s := range m.sheets {
		s.cells, s.formats = slices.Clone(s.cells), slices.Clone(s.formats)
		for i := range s.cells {
			s.cells[i].formula = slices.Clone(s.cells[i].formula)
		}
		out.sheets = append(out.sheets, s)
	}
	return out
}

// do says whether s stood.
func (m *model) do(s step) bool {
	i := m.find(s.o.Sheet)
	if s.o.Kind == api.OAdd {
		if slices.Contains(m.used, s.o.Sheet) || len(m.sheets) == 16 {
			return false
		}
		m.sheets = append(m.sheets, modelSheet{id: s.o.Sheet, name: s.o.Name})
		m.used = append(m.used, s.o.Sheet)
		return true
	}
	if i < 0 {
		return false
	}
	sheet := &m.sheets[i]
	switch s.o.Kind {
	case api.OSet:
		sheet.cells = slices.DeleteFunc(sheet.cells, func(c modelCell) bool { return c.row == s.o.Row && c.col == s.o.Col })
		if written(s.formula) != "" {
			sheet.cells = append(sheet.cells, modelCell{s.o.Row, s.o.Col, slices.Clone(s.formula)})
		}
	case api.ORow, api.OCol:
		m.line(sheet, s.o)
	case api.OFormat:
		sheet.formats = slices.DeleteFunc(sheet.formats, func(f modelFormat) bool { return covered(s.o.Rects, f.row, f.col) })
		for row := range int64(60) {
			for col := range int64(60) {
				if s.o.Format != 0 && covered(s.o.Rects, row, col) {
					sheet.formats = append(sheet.formats, modelFormat{row, col, s.o.Format})
				}
			}
		}
	case api.ORename:
		sheet.name = s.o.Name
	case api.ORemove:
		m.sheets = slices.Delete(m.sheets, i, i+1)
		m.each(s.o.Sheet, func(p *piece) { p.lost = true })
	}
	return true
}

func covered(rs []api.Rect, row, col int64) bool {
	return slices.ContainsFunc(rs, func(r api.Rect) bool { return r.R0 <= row && row < r.R1 && r.C0 <= col && col < r.C1 })
}

// each has all pieces that refer to the sheet id changed.
func (m *model) each(id string, change func(*piece)) {
	for i := range m.sheets {
		for j := range m.sheets[i].cells {
			formula := slices.Clone(m.sheets[i].cells[j].formula)
			for k := range formula {
				p := &formula[k]
				p.ends = slices.Clone(p.ends)
				if len(p.ends) > 0 && !p.lost && (p.sheet == id || p.sheet == "" && m.sheets[i].id == id) {
					change(p)
				}
			}
			m.sheets[i].cells[j].formula = formula
		}
	}
}

func (m *model) line(sheet *modelSheet, o api.Op) {
	var cells []modelCell
	for _, c := range sheet.cells {
		if sent(&c.row, &c.col, o) {
			cells = append(cells, c)
		}
	}
	var formats []modelFormat
	for _, f := range sheet.formats {
		if sent(&f.row, &f.col, o) {
			formats = append(formats, f)
		}
	}
	sheet.cells, sheet.formats = cells, formats
	m.each(o.Sheet, func(p *piece) {
		for i := range p.ends {
			if !sent(&p.ends[i][0], &p.ends[i][1], o) {
				p.lost = true
			}
		}
	})
}

// sent sends a place where o does; false: nowhere.
func sent(row, col *int64, o api.Op) bool {
	if o.Kind == api.ORow {
		*row = modelLine(o.Line, *row)
		return *row >= 0
	}
	*col = modelLine(o.Line, *col)
	return *col >= 0
}

// told is as told of a workbook.
func (m *model) told() string {
	sheets := slices.Clone(m.sheets)
	slices.SortFunc(sheets, func(a, b modelSheet) int { return strings.Compare(a.id, b.id) })
	out := ""
	for _, s := range sheets {
		out += s.id + "=" + s.name + "{"
		// Places are told in rows of columns, one after the other, which is the order that is asked for.
		for row := range int64(60) {
			for col := range int64(60) {
				for _, c := range s.cells {
					if c.row == row && c.col == col {
						out += fmt.Sprintf("%d,%d:%s;", row, col, written(c.formula))
					}
				}
			}
		}
		for row := range int64(60) {
			for col := range int64(60) {
				for _, f := range s.formats {
					if f.row == row && f.col == col {
						out += fmt.Sprintf("%d,%d#%d;", row, col, f.format)
					}
				}
			}
		}
		out += "}"
	}
	return out
}

// follow does steps on both, and holds the one against the other.
func follow(t *testing.T, b *Book, m *model, steps []step) {
	t.Helper()
	var os []api.Op
	stood := 0
	for _, s := range steps {
		os = append(os, s.o)
		if m.do(s) {
			stood++
		}
	}
	if got := b.Stands(os...); got != (stood == len(steps)) {
		t.Fatalf("P14.1: Stands of %+v is %v", os, got)
	}
	if got := b.Apply(os...); got != stood {
		t.Fatalf("P14.1: of %+v %d stood; want %d", os, got, stood)
	}
	if got, want := told(b), m.told(); got != want {
		t.Fatalf("P14.1: %+v: %s; want %s", os, got, want)
	}
	used := slices.Clone(m.used)
	slices.Sort(used)
	if got := b.Used(); !slices.Equal(got, used) {
		t.Fatalf("P14.1: %+v: used %v; want %v", os, got, used)
	}
}

// small are steps that touch one another in most ways.
func small() []step {
	plain := func(os ...api.Op) []step {
		var out []step
		for _, o := range os {
			out = append(out, step{o: o})
		}
		return out
	}
	out := plain(rows(first, ins(0)), rows(first, ins(1)), rows(first, del(0)), rows(first, del(1)), rows(first, move(0, 2)), rows(first, move(2, 0)),
		cols(first, ins(1)), cols(first, del(0)), cols(first, move(1, 0)), rows(other, ins(1)), rows(other, del(1)), cols(other, move(0, 2)), cols(other, del(0)),
		format(first, 3, rect(0, 0, 2, 1)), format(first, 0, rect(0, 0, 1, 2)), format(other, 4, rect(1, 0, 2, 2)),
		add(other, "x"), add(third, "y"), add(first, "z"), rename(other, "n"), rename(first, "m"), remove(first), remove(other), remove(third))
	return append(out,
		setStep(first, 0, 0, piece{text: "v"}), setStep(first, 1, 0, piece{}), setStep(other, 1, 1, piece{text: "w"}),
		setStep(first, 1, 0, at("=", "", [2]int64{0, 0}), at("+", other, [2]int64{1, 1}, [2]int64{0, 0})),
		setStep(other, 0, 1, at("=SUM(", first, [2]int64{0, 0}, [2]int64{2, 1}), at("/", "", [2]int64{1, 1}), piece{text: ",2)"}),
		setStep(first, 0, 1, at("=-", third, [2]int64{0, 0}), at("&", first, [2]int64{1, 0})))
}

// begun is a workbook and a model of it behind some steps.
func begun(t *testing.T, full bool) (*Book, *model) {
	b, m := New(), newModel()
	if full {
		steps := small()
		follow(t, b, m, []step{steps[16], steps[27], steps[28], steps[29], steps[26], steps[13], steps[15]})
	}
	return b, m
}

// All steps one behind the other, three deep, from a new workbook and from one that has something.
func TestSmallWorkbooks(t *testing.T) {
	steps := small()
	for _, full := range []bool{false, true} {
		start, model := begun(t, full)
		for _, s := range steps {
			for _, next := range steps {
				b, m := start.Copy(), model.copied()
				follow(t, b, m, []step{s, next})
				// What comes third is many, so that of each pair one in seven is asked for.
				for i, last := range steps {
					if (i+len(told(b)))%7 == 0 {
						follow(t, b.Copy(), m.copied(), []step{last})
					}
				}
			}
		}
		check(t, start, model.told())
	}
}

// dice is a row of numbers that are the same in each run.
type dice uint64

func (d *dice) roll(n int) int {
	*d = *d*6364136223846793005 + 1442695040888963407
	return int(uint64(*d)>>33) % n
}

func (d *dice) line() api.Line {
	l := api.Line{Kind: 1 + d.roll(3), At: int64(d.roll(12))}
	if l.Kind == api.LMove {
		for l.To = l.At; l.To == l.At || l.To == l.At+1; {
			l.To = int64(d.roll(12))
		}
	}
	return l
}

func (d *dice) id() string {
	// Of few ids the most, so that steps meet.
	return []string{first, first, other, other, third, "c3n1", "c3n2", "c3n3", "c3n10", "c4n0", "c5n0", "c6n0", "c7n0", "c8n0", "c10n0", "c11n0", "c12n0", "c13n0", "c14n0", "c15n0"}[d.roll(20)]
}

func (d *dice) place() [2]int64 { return [2]int64{int64(d.roll(10)), int64(d.roll(8))} }

func (d *dice) formula() []piece {
	var out []piece
	for i := range 1 + d.roll(3) {
		p := piece{text: []string{"+", "*", "&", "<=", "-"}[d.roll(5)], ends: [][2]int64{d.place()}}
		if i == 0 {
			p.text = "="
		}
		if d.roll(2) == 0 {
			p.sheet = d.id()
		}
		if d.roll(3) == 0 {
			p.ends = append(p.ends, d.place())
		}
		out = append(out, p)
	}
	return out
}

func (d *dice) step() step {
	id, where := d.id(), d.place()
	switch n := d.roll(20); {
	case n < 6:
		return setStep(id, where[0], where[1], d.formula()...)
	case n < 8:
		return setStep(id, where[0], where[1], piece{text: []string{"", "1", "x", "TRUE", "#N/A"}[d.roll(5)]})
	case n < 10:
		return step{o: rows(id, d.line())}
	case n < 12:
		return step{o: cols(id, d.line())}
	case n < 15:
		return step{o: format(id, d.roll(3)*7, rect(where[0], where[1], where[0]+1+int64(d.roll(3)), where[1]+1+int64(d.roll(3))))}
	case n < 18:
		return step{o: add(id, fmt.Sprint("n", d.roll(5)))}
	case n < 19:
		return step{o: rename(id, fmt.Sprint("r", d.roll(5)))}
	}
	if d.roll(3) > 0 {
		return step{o: rename(id, "kept")}
	}
	return step{o: remove(id)}
}

func TestGreaterWorkbooks(t *testing.T) {
	d := dice(14)
	sixteen := 0
	for range 60 {
		b, m := New(), newModel()
		for range 60 {
			var steps []step
			for range d.roll(5) {
				steps = append(steps, d.step())
			}
			follow(t, b, m, steps)
			sameAgain(t, &d, b)
			if len(b.Sheets()) == 16 {
				sixteen++
			}
		}
	}
	if sixteen == 0 {
		t.Error("the test's own workbooks never have sixteen sheets")
	}
}

// rebuilt is b made anew, by a way that d chooses.
func rebuilt(d *dice, b *Book) *Book {
	out := New()
	there := b.Sheets()
	for _, id := range b.Used() {
		if !slices.Contains(there, id) && id != first {
			out.Apply(add(id, "gone"), set(id, 0, 0, "1"), remove(id))
		}
	}
	if !slices.Contains(there, first) {
		out.Apply(remove(first))
	}
	for _, id := range there {
		out.Apply(add(id, "not yet"))
	}
	var os []api.Op
	for _, id := range there {
		os = append(os, rename(id, b.Name(id)))
		for _, at := range b.Cells(id) {
			os = append(os, api.Op{Kind: api.OSet, Sheet: id, Row: at.Row, Col: at.Col, Cell: b.Cell(at)})
		}
		for _, at := range b.Formats(id) {
			os = append(os, format(id, b.Format(at), rect(at.Row, at.Col, at.Row+1, at.Col+1)))
		}
	}
	for i := range os {
		j := d.roll(len(os))
		os[i], os[j] = os[j], os[i]
	}
	if out.Apply(os...) != len(os) {
		panic("the test's own workbook is not made")
	}
	return out
}

// sameAgain holds b against one that became the same by another way, and against ones that differ in one thing.
func sameAgain(t *testing.T, d *dice, b *Book) {
	t.Helper()
	o := rebuilt(d, b)
	if !b.Eq(o) || !o.Eq(b) || !b.Eq(b) || !b.Eq(b.Copy()) || !b.Copy().Eq(b) {
		t.Fatalf("P14.1: %s is not Eq with %s", told(b), told(o))
	}
	s := d.step()
	before := told(o) + fmt.Sprint(o.Used())
	o.Apply(s.o)
	same := before == told(o)+fmt.Sprint(o.Used())
	if b.Eq(o) != same || o.Eq(b) != same {
		t.Fatalf("P14.1: Eq of %s and %s, which is behind %+v, is %v", told(b), told(o), s.o, !same)
	}
	if got := show.Cell(b.Cell(api.At{Sheet: first, Row: 59})); got != "" {
		t.Fatalf("P14.1: a cell that was never set is %s", got)
	}
}
