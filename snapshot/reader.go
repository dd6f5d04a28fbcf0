package snapshot

import (
	"counterpane/api"
	"counterpane/opcode"
	"counterpane/sheet"
)

// passing is the name of sheets that go again at once.
const passing = "x"

// reader reads what a writer wrote. Of other bytes it makes some workbook, which is written otherwise: from where no cell
// begins it reads blank ones alone, and what may not be, or does not stand, the workbook itself leaves out.
type reader struct {
	rest []byte
}

func (r *reader) cell() api.Cell {
	// Where no cell begins, this is a blank one of no bytes.
	c, n, _ := opcode.ReadCell(r.rest)
	r.rest = r.rest[n:]
	return c
}

// next is the next cell of a list; false: one without a value ends it.
func (r *reader) next() (api.Cell, bool) {
	c := r.cell()
	return c, c.Value.Kind != api.VBlank
}

func (r *reader) book() *sheet.Book {
	b := sheet.New()
	r.gone(b)
	r.sheets(b)
	return b
}

// The first sheet is there from the beginning, so that adding it does nothing: it goes, or gets its name, by what is done
// behind that to all sheets alike.

func (r *reader) gone(b *sheet.Book) {
	for c, more := r.next(); more; c, more = r.next() {
		id := c.Value.Text
		b.Apply(api.Op{Kind: api.OAdd, Sheet: id, Name: passing}, api.Op{Kind: api.ORemove, Sheet: id})
	}
}

func (r *reader) sheets(b *sheet.Book) {
	for c, more := r.next(); more; c, more = r.next() {
		id, name := c.Value.Text, r.cell().Value.Text
		b.Apply(api.Op{Kind: api.OAdd, Sheet: id, Name: name}, api.Op{Kind: api.ORename, Sheet: id, Name: name})
		r.cells(b, id)
		r.formats(b, id)
	}
}

func (r *reader) cells(b *sheet.Book, id string) {
	for c, more := r.next(); more; c, more = r.next() {
		row, col := line(c), line(r.cell())
		b.Apply(api.Op{Kind: api.OSet, Sheet: id, Row: row, Col: col, Cell: r.cell()})
	}
}

func (r *reader) formats(b *sheet.Book, id string) {
	for c, more := r.next(); more; c, more = r.next() {
		row, col := line(c), line(r.cell())
		one := []api.Rect{{R0: row, C0: col, R1: row + 1, C1: col + 1}}
		b.Apply(api.Op{Kind: api.OFormat, Sheet: id, Rects: one, Format: int(r.cell().Value.Num)})
	}
}

// line is the line that c tells. Those that no sheet has are all the same one, so that there is a number behind it.
func line(c api.Cell) int64 {
	return min(int64(c.Value.Num), api.MaxLine)
}
