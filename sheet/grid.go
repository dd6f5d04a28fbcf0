package sheet

import (
	"cmp"
	"slices"
	"strings"

	"counterpane/api"
	"counterpane/axis"
)

// spot is a place on a sheet.
type spot struct {
	row, col int64
}

// grid is what stands on a sheet; a spot where nothing stands is no key.
type grid[T any] map[spot]T

// shifted is g behind l on its rows, else on its columns.
func (g grid[T]) shifted(rows bool, l api.Line) grid[T] {
	out := grid[T]{}
	for at, what := range g {
		line := &at.col
		if rows {
			line = &at.row
		}
		*line = axis.Index(l, *line)
		if *line >= 0 && *line < api.MaxLine {
			out[at] = what
		}
	}
	return out
}

// places is where something stands, by rows, then columns, as places of the sheet id.
func (g grid[T]) places(id string) []api.At {
	id = strings.Clone(id)
	out := make([]api.At, 0, len(g))
	for at := range g {
		out = append(out, api.At{Sheet: id, Row: at.row, Col: at.col})
	}
	slices.SortFunc(out, func(a, b api.At) int {
		return cmp.Or(cmp.Compare(a.Row, b.Row), cmp.Compare(a.Col, b.Col))
	})
	return out
}
