package depgraph

import (
	"math/bits"

	"counterpane/api"
)

// shape is of blocks that cover a sheet side by side, each of 2 to the high-th rows and 2 to the wide-th columns.
type shape struct {
	high, wide int
}

// shapeOf is of the least block that b fits into.
func shapeOf(b box) shape {
	return shape{high: bits.Len64(uint64(b.r0 ^ b.r1)), wide: bits.Len64(uint64(b.c0 ^ b.c1))}
}

// block is which of its sheet's blocks a cell is in, counted by rows and by columns.
func (s shape) block(at api.At) api.At {
	return api.At{Sheet: at.Sheet, Row: at.Row >> s.high, Col: at.Col >> s.wide}
}

// half is which half of its block a cell is in, 0 or 1, if the block, of more than one cell, is cut across its longer side.
func (s shape) half(at api.At) int {
	if s.high >= s.wide {
		return int(at.Row >> (s.high - 1) & 1)
	}
	return int(at.Col >> (s.wide - 1) & 1)
}
