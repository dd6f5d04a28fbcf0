package depgraph

import (
	"iter"

	"counterpane/api"
	"counterpane/plane"
)

// index finds formulas that refer to a cell, without a look at all others. A box is kept under the least block that it fits
// into, so that the boxes that have a cell are kept under that cell's own blocks, of which there is one of each shape.
type index map[plane.Shape]map[api.At]places

type places map[api.At]struct{}

// add keeps that the formula at a place refers to b.
func (x index) add(b plane.Box, at api.At) {
	s, block := b.Block()
	if x[s] == nil {
		x[s] = map[api.At]places{}
	}
	if x[s][block] == nil {
		x[s][block] = places{}
	}
	x[s][block][at] = struct{}{}
}

// remove is add undone; it may be done twice, for a formula may have two boxes under one block.
func (x index) remove(b plane.Box, at api.At) {
	s, block := b.Block()
	delete(x[s][block], at)
	if len(x[s][block]) == 0 {
		delete(x[s], block)
	}
	if len(x[s]) == 0 {
		delete(x, s)
	}
}

// near is the formulas that may refer to a cell, some more than once: those with a box under one of its blocks.
func (x index) near(at api.At) iter.Seq[api.At] {
	return func(yield func(api.At) bool) {
		for s, blocks := range x {
			for from := range blocks[s.Block(at)] {
				if !yield(from) {
					return
				}
			}
		}
	}
}
