package recalc

import (
	"slices"

	"counterpane/api"
	"counterpane/depgraph"
	"counterpane/eval"
	"counterpane/plane"
)

// begin makes all worths anew.
func (c *Calc) begin() {
	c.graph = depgraph.New(c.Book)
	c.worths, c.filled, c.rings = map[api.At]api.Value{}, map[string]*plane.Crowd{}, map[api.At]struct{}{}
	for _, id := range c.Sheets() {
		for _, at := range c.Cells(id) {
			c.keep(at, c.Cell(at))
		}
	}
	for _, at := range c.graph.Order() {
		c.evaluate(at)
	}
}

// follow brings the worths up to date behind cells that were set: theirs, and those of all formulas that come to them.
func (c *Calc) follow(set []api.At) {
	part := depgraph.New(nil)
	c.move(set, part)
	for i := 0; i < len(set); i++ {
		found := c.graph.To(set[i])
		c.move(found, part)
		set = append(set, found...)
	}
	others := len(c.rings) > 0
	for _, at := range set {
		cell := c.Cell(at)
		c.graph.Set(at, cell)
		c.keep(at, cell)
	}
	for _, at := range part.Order() {
		// The rings of the part are not the only ones: one of it may refer to one that stayed.
		if !others || !slices.ContainsFunc(c.graph.From(at), c.ringed) {
			c.evaluate(at)
		}
	}
}

// move takes formulas out of the graph into a part of it, so that they are not found again, however many ways lead there.
func (c *Calc) move(places []api.At, part *depgraph.Graph) {
	for _, at := range places {
		part.Set(at, c.Cell(at))
		c.graph.Set(at, api.Cell{})
		delete(c.rings, at)
	}
}

// keep has a cell be worth what it is by itself. A formula counts as one that comes in no order until it is evaluated.
func (c *Calc) keep(at api.At, cell api.Cell) {
	switch {
	case cell.Formula:
		c.worths[at], c.rings[at] = api.Value{Kind: api.VError, Err: api.ECycle}, struct{}{}
	case cell.Value.Kind == api.VBlank:
		delete(c.worths, at)
		c.filled[at.Sheet] = c.filled[at.Sheet].Without(at)
		return
	default:
		c.worths[at] = cell.Value
	}
	c.filled[at.Sheet] = c.filled[at.Sheet].With(at)
}

// evaluate has the formula at a place be worth what it is over the worths that are kept.
func (c *Calc) evaluate(at api.At) {
	c.worths[at] = eval.Eval(c.Cell(at).Expr, at.Sheet, cells{c})
	c.runs++
	delete(c.rings, at)
}

func (c *Calc) ringed(at api.At) bool {
	_, ring := c.rings[at]
	return ring
}
