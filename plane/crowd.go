package plane

import (
	"slices"

	"counterpane/api"
)

// Crowd is one cell of a sheet or more, in two halves that are crowds again, so that those of its cells that are in a box are
// a few whole crowds, however many cells they are. The least block that it fits into is cut in the middle, and some cells are
// on either side: so its form hangs on its cells alone, and it is at most twice as deep as the number of a line has bits.
// There is none of no cells: that is nil.
type Crowd struct {
	around Box       // the least one
	halves [2]*Crowd // nil: it is one cell
}

// Alone is the cell of c, if that is its only one.
func (c *Crowd) Alone() (api.At, bool) {
	if !c.alone() {
		return api.At{}, false
	}
	return c.around.first(), true
}

func (c *Crowd) alone() bool {
	return c.halves[0] == nil
}

// Halves is both halves of c, which is more than one cell, the one from the top left first.
func (c *Crowd) Halves() [2]*Crowd {
	return c.halves
}

// With is c, which may be none, and a cell of its sheet.
func (c *Crowd) With(at api.At) *Crowd {
	one := One(at)
	if c == nil {
		return &Crowd{around: one}
	}
	around := c.around.and(one)
	if around == one {
		return c
	}
	s := around.shape()
	mine := s.half(at)
	if s.half(c.around.first()) != mine && s.half(c.around.last()) != mine {
		both := &Crowd{around: around}
		both.halves[mine], both.halves[1-mine] = &Crowd{around: one}, c
		return both
	}
	// Some of c are on either side, so that this cut is its own.
	c.around = around
	c.halves[mine] = c.halves[mine].With(at)
	return c
}

// Without is c, which may be none, without a cell; nil: there is no other.
func (c *Crowd) Without(at api.At) *Crowd {
	switch {
	case c == nil || !c.around.Holds(One(at)):
		return c
	case c.alone():
		return nil
	}
	mine := c.around.shape().half(at)
	other := c.halves[1-mine]
	rest := c.halves[mine].Without(at)
	if rest == nil {
		return other
	}
	c.halves[mine] = rest
	c.around = rest.around.and(other.around)
	return c
}

// Within tells the crowds whose cells are those of c, which may be none, that are in some of bs.
func (c *Crowd) Within(bs []Box, tell func(*Crowd)) {
	switch {
	case c == nil || !slices.ContainsFunc(bs, c.around.meets):
	case slices.ContainsFunc(bs, func(b Box) bool { return b.Holds(c.around) }):
		tell(c)
	default:
		c.halves[0].Within(bs, tell)
		c.halves[1].Within(bs, tell)
	}
}

// Each tells the cells of c.
func (c *Crowd) Each(tell func(api.At)) {
	if c.alone() {
		tell(c.around.first())
		return
	}
	c.halves[0].Each(tell)
	c.halves[1].Each(tell)
}
