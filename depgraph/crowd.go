package depgraph

import (
	"slices"

	"counterpane/api"
)

// crowd is one cell of a sheet or more, in two halves that are crowds again, so that those of its cells that are in a box are
// a few whole crowds, however many cells they are. The least block that it fits into is cut in the middle, and some cells are
// on either side: so its form hangs on its cells alone, and it is at most twice as deep as the number of a line has bits.
type crowd struct {
	around box       // the least one
	halves [2]*crowd // nil: it is one cell
}

func (c *crowd) alone() bool {
	return c.halves[0] == nil
}

// with is c, or none, and a cell that it has not.
func (c *crowd) with(at api.At) *crowd {
	one := &crowd{around: boxOf(at)}
	if c == nil {
		return one
	}
	around := c.around.and(one.around)
	s := shapeOf(around)
	mine := s.half(at)
	if s.half(c.around.first()) != mine && s.half(c.around.last()) != mine {
		both := &crowd{around: around}
		both.halves[mine], both.halves[1-mine] = one, c
		return both
	}
	// Some of c are on either side, so that this cut is its own.
	c.around = around
	c.halves[mine] = c.halves[mine].with(at)
	return c
}

// without is c without a cell that it has; nil: that was all.
func (c *crowd) without(at api.At) *crowd {
	if c.alone() {
		return nil
	}
	mine := shapeOf(c.around).half(at)
	other := c.halves[1-mine]
	rest := c.halves[mine].without(at)
	if rest == nil {
		return other
	}
	c.halves[mine] = rest
	c.around = rest.around.and(other.around)
	return c
}

// within tells the crowds whose cells are those of c, which may be none, that are in some of bs.
func (c *crowd) within(bs []box, tell func(*crowd)) {
	switch {
	case c == nil || !slices.ContainsFunc(bs, c.around.meets):
	case slices.ContainsFunc(bs, func(b box) bool { return b.holds(c.around) }):
		tell(c)
	default:
		c.halves[0].within(bs, tell)
		c.halves[1].within(bs, tell)
	}
}

// each tells the cells of c.
func (c *crowd) each(tell func(api.At)) {
	if c.alone() {
		tell(c.around.first())
		return
	}
	c.halves[0].each(tell)
	c.halves[1].each(tell)
}
