package eval

import (
	"slices"
	"testing"

	"counterpane/api"
	"counterpane/builtin"
	"counterpane/parse"
	"counterpane/show"
	"counterpane/value"
)

// The model is another way to what Eval answers: a tree is turned into a row of nodes, kids first, which are worked off over a pile of arguments.

type step struct {
	node     api.Expr
	argument bool // it stands in a call
}

func steps(e api.Expr, argument bool) []step {
	var l []step
	for _, kid := range e.Kids {
		l = append(l, steps(kid, e.Kind == api.XCall)...)
	}
	return append(l, step{e, argument})
}

func model(e api.Expr, home string, b *book) api.Value {
	var pile [][]api.Value
	var ranges []bool
	for _, s := range steps(e, false) {
		n := len(pile) - len(s.node.Kids)
		kids, were := pile[n:], ranges[n:]
		worth, isRange := []api.Value{{}}, false
		switch s.node.Kind {
		case api.XNum, api.XText, api.XBool, api.XErr:
			// The kinds of values are numbered as those of nodes.
			worth[0] = api.Value{Kind: s.node.Kind, Num: s.node.Num, Text: s.node.Text, Bool: s.node.Bool, Err: s.node.Err}
		case api.XRef, api.XRange:
			worth, isRange = modelCells(s, home, b)
		case api.XNeg:
			worth[0] = builtin.Binary("-", val("0"), kids[0][0])
		case api.XBin:
			worth[0] = builtin.Binary(s.node.Text, kids[0][0], kids[1][0])
		case api.XCall:
			var args []builtin.Arg
			for i := range kids {
				args = append(args, builtin.Arg{Range: were[i], Values: kids[i]})
			}
			worth[0] = builtin.Call(s.node.Text, args...)
		}
		pile, ranges = append(pile[:n:n], worth), append(ranges[:n:n], isRange)
	}
	return pile[0][0]
}

// modelCells goes through all cells from one end to the other, and then takes those that are not blank.
func modelCells(s step, home string, b *book) ([]api.Value, bool) {
	first, last := s.node.Refs[0], s.node.Refs[len(s.node.Refs)-1]
	sheet := first.Sheet
	if sheet == "" {
		sheet = home
	}
	there := slices.Contains(b.sheets, sheet)
	isRange := s.node.Kind == api.XRange
	switch {
	case isRange && !s.argument:
		return []api.Value{val("#VALUE!")}, false
	case !there:
		return []api.Value{val("#REF!")}, false
	case !isRange:
		return []api.Value{b.cells[api.At{Sheet: sheet, Row: first.Row, Col: first.Col}]}, false
	}
	rows, cols := []int64{first.Row, last.Row}, []int64{first.Col, last.Col}
	slices.Sort(rows)
	slices.Sort(cols)
	var l []api.Value
	for row := rows[0]; row <= rows[1]; row++ {
		for col := cols[0]; col <= cols[1]; col++ {
			if v := b.cells[api.At{Sheet: sheet, Row: row, Col: col}]; v != (api.Value{}) {
				l = append(l, v)
			}
		}
	}
	return l, true
}

func checkModel(t *testing.T, e api.Expr, home string, b *book) {
	t.Helper()
	if got, want := Eval(e, home, b), model(e, home, b); got != want {
		t.Fatalf("P13.1: %s on %q: %s; want %s", show.Formula(e), home, told(got), told(want))
	}
}

func neg(kid api.Expr) api.Expr { return api.Expr{Kind: api.XNeg, Kids: []api.Expr{kid}} }

func bin(a api.Expr, operator string, b api.Expr) api.Expr {
	return api.Expr{Kind: api.XBin, Text: operator, Kids: []api.Expr{a, b}}
}

func call(name string, kids ...api.Expr) api.Expr {
	return api.Expr{Kind: api.XCall, Text: name, Kids: slices.Clone(kids)}
}

func names() []string {
	return []string{"SUM", "MIN", "MAX", "COUNT", "AVERAGE", "IF", "AND", "OR", "NOT", "ABS", "LEN", "CONCAT", "ISERROR", "NA", "NOPE"}
}

// leaves are trees of one node, of every sort.
func leaves(t *testing.T) []api.Expr {
	var l []api.Expr
	for _, s := range []string{"0", "2.5", `"x"`, `"3"`, "TRUE", "#NUM!", "A1", "$C$1", "A2", "B2", "A4", "D9", "c1n2!B1", "c3n3!A1", "A1:C1", "C3:A1", "B4:A1", "D9:D9", "c1n2!B1:A2", "c3n3!A1:B2"} {
		l = append(l, formula(t, s))
	}
	return l
}

func TestSmallTreesAgainstTheModel(t *testing.T) {
	b := sample()
	var homes = []string{here, there, gone}
	ask := func(e api.Expr) {
		for _, home := range homes {
			checkModel(t, e, home, b)
		}
	}
	small := leaves(t)
	for _, name := range names() {
		ask(call(name))
	}
	for _, x := range small {
		ask(x)
		ask(neg(x))
		for _, name := range names() {
			ask(call(name, x))
			ask(neg(call(name, x)))
			ask(call(name, neg(x)))
		}
		for _, y := range small {
			for _, op := range operators() {
				ask(bin(x, op, y))
			}
			for _, name := range names() {
				ask(call(name, x, y))
			}
			homes = []string{here}
			for _, z := range small {
				for _, name := range names() {
					ask(call(name, x, y, z))
				}
				ask(bin(bin(x, "&", y), "=", z))
				ask(bin(x, "-", bin(y, "/", z)))
			}
			homes = []string{here, there, gone}
		}
		b.asked = nil
	}
}

// A small generator of its own, so that each run asks the same.
type dice uint64

func (d *dice) throw(n int) int {
	*d = *d*6364136223846793005 + 1442695040888963407
	return int(uint64(*d) >> 33 % uint64(n))
}

// tree is one of at most so many nodes, and at most most deep.
func (d *dice) tree(small []api.Expr, nodes, most int) api.Expr {
	if nodes < 3 || most == 1 || d.throw(8) == 0 {
		return small[d.throw(len(small))]
	}
	switch d.throw(6) {
	case 0:
		return neg(d.tree(small, nodes-1, most-1))
	case 1, 2, 3:
		n := min(d.throw(5), nodes-1)
		kids := make([]api.Expr, n)
		for i := range kids {
			kids[i] = d.tree(small, (nodes-1)/n, most-1)
		}
		return call(names()[d.throw(len(names()))], kids...)
	}
	left := 1 + d.throw(nodes-2)
	return bin(d.tree(small, left, most-1), operators()[d.throw(len(operators()))], d.tree(small, nodes-1-left, most-1))
}

func TestGreatTreesAgainstTheModel(t *testing.T) {
	d := dice(13)
	small := leaves(t)
	kinds := map[int]int{}
	for range 60000 {
		b := sample()
		e := d.tree(small, 2+d.throw(40), 50)
		if !parse.May(e) {
			t.Fatal("the test's own tree may not be")
		}
		checkModel(t, e, []string{here, here, there, gone}[d.throw(4)], b)
		got := Eval(e, here, b)
		if !value.May(got) {
			t.Fatalf("P13.1: %s is %s, which may not be", show.Formula(e), told(got))
		}
		kinds[got.Kind]++
	}
	for _, kind := range []int{api.VBlank, api.VNumber, api.VText, api.VBool, api.VError} {
		if kinds[kind] == 0 {
			t.Errorf("the test's own trees have no worth of the kind %d", kind)
		}
	}
}
