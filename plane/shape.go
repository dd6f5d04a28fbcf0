package plane

import (
	"math/bits"

	"counterpane/api"
)

// Shape is of blocks that cover a sheet side by side, each of 2 to the high-th rows and 2 to the wide-th columns.
type Shape struct {
	high, wide int
}

// Block is the least block that b fits into: its shape, and which of these it is.
func (b Box) Block() (Shape, api.At) {
	s := b.shape()
	return s, s.Block(b.first())
}

func (b Box) shape() Shape {
	return Shape{high: bits.Len64(uint64(b.R0 ^ b.R1)), wide: bits.Len64(uint64(b.C0 ^ b.C1))}
}

// Block is which of its sheet's blocks a cell is in, counted by rows and by columns.
func (s Shape) Block(at api.At) api.At {
	return api.At{Sheet: at.Sheet, Row: at.Row >> s.high, Col: at.Col >> s.wide}
}

// half is which half of its block a cell is in, 0 or 1, if the block, of more than one cell, is cut across its longer side.
func (s Shape) half(at api.At) int {
	if s.high >= s.wide {
		return int(at.Row >> (s.high - 1) & 1)
	}
	return int(at.Col >> (s.wide - 1) & 1)
}
