package recalc

import (
	"slices"

	"counterpane/api"
	"counterpane/plane"
)

// cells is what a formula sees of a workbook.
type cells struct {
	calc *Calc
}

// Cell is what a cell is worth; false: its sheet is not there.
func (s cells) Cell(at api.At) (api.Value, bool) {
	return s.calc.worths[at], s.there(at.Sheet)
}

// Range is what those of the cells are worth that are not blank, in rows; false: their sheet is not there.
func (s cells) Range(sheet string, r0, c0, r1, c1 int64) ([]api.Value, bool) {
	if !s.there(sheet) {
		return nil, false
	}
	var places []api.At
	s.calc.filled[sheet].Within([]plane.Box{plane.Between(sheet, r0, c0, r1, c1)}, func(part *plane.Crowd) {
		part.Each(func(at api.At) { places = append(places, at) })
	})
	slices.SortFunc(places, plane.InOrder)
	out := make([]api.Value, 0, len(places))
	for _, at := range places {
		out = append(out, s.calc.worths[at])
	}
	return out, true
}

// there says whether there is such a sheet: each has a name.
func (s cells) there(sheet string) bool {
	return s.calc.Name(sheet) != ""
}
