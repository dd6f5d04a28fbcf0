package sheet

import (
	"maps"
	"strings"

	"counterpane/api"
	"counterpane/fresh"
	"counterpane/op"
)

// page is a sheet of a workbook.
type page struct {
	name    string
	cells   grid[api.Cell] // those that are not blank
	formats grid[int]      // those that are not 0
}

func newPage(name string) *page {
	return &page{name: strings.Clone(name), cells: grid[api.Cell]{}, formats: grid[int]{}}
}

// set has c stand at a place.
func (p *page) set(row, col int64, c api.Cell) {
	at := spot{row, col}
	if !c.Formula && c.Value.Kind == api.VBlank {
		delete(p.cells, at)
		return
	}
	p.cells[at] = fresh.Cell(c)
}

// paint gives each cell of rs that format.
func (p *page) paint(rs []api.Rect, format int) {
	for _, r := range rs {
		for row := r.R0; row < r.R1; row++ {
			for col := r.C0; col < r.C1; col++ {
				p.format(spot{row, col}, format)
			}
		}
	}
}

func (p *page) format(at spot, format int) {
	if format == 0 {
		delete(p.formats, at)
		return
	}
	p.formats[at] = format
}

func (p *page) copied() *page {
	out := newPage(p.name)
	for at, c := range p.cells {
		out.cells[at] = fresh.Cell(c)
	}
	maps.Copy(out.formats, p.formats)
	return out
}

func samePage(p, q *page) bool {
	return p.name == q.name && maps.EqualFunc(p.cells, q.cells, sameCell) && maps.Equal(p.formats, q.formats)
}

func sameCell(a, b api.Cell) bool {
	return op.Eq(api.Op{Cell: a}, api.Op{Cell: b})
}
