package snapshot

import (
	"slices"

	"counterpane/api"
	"counterpane/opcode"
	"counterpane/sheet"
)

// writer writes a workbook as a row of cells, for a cell's bytes say themselves where they end: numbers and texts stand in
// it as cells that hold them, and a blank cell ends each list. All lists are in an order that hangs on what stands in them.
type writer struct {
	written []byte
}

// cell is of one that may be.
func (w *writer) cell(c api.Cell) {
	b, _ := opcode.Cell(c)
	w.written = append(w.written, b...)
}

func (w *writer) number(n int64) {
	w.cell(api.Cell{Value: api.Value{Kind: api.VNumber, Num: api.Fix(n)}})
}

func (w *writer) text(s string) {
	w.cell(api.Cell{Value: api.Value{Kind: api.VText, Text: s}})
}

func (w *writer) end() {
	w.cell(api.Cell{})
}

func (w *writer) book(b *sheet.Book) {
	there := b.Sheets()
	// Ahead of those that are there, so that a reader always has room to add them.
	for _, id := range b.Used() {
		if !slices.Contains(there, id) {
			w.text(id)
		}
	}
	w.end()
	for _, id := range there {
		w.text(id)
		w.text(b.Name(id))
		w.cells(b, id)
		w.formats(b, id)
	}
	w.end()
}

func (w *writer) cells(b *sheet.Book, id string) {
	for _, at := range b.Cells(id) {
		w.place(at)
		w.cell(b.Cell(at))
	}
	w.end()
}

func (w *writer) formats(b *sheet.Book, id string) {
	for _, at := range b.Formats(id) {
		w.place(at)
		w.number(int64(b.Format(at)))
	}
	w.end()
}

func (w *writer) place(at api.At) {
	w.number(at.Row)
	w.number(at.Col)
}
