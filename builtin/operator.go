package builtin

import (
	"counterpane/api"
	"counterpane/fixnum"
	"counterpane/value"
)

// Binary is a and b under an operator.
func Binary(op string, a, b api.Value) api.Value {
	a, b = counted(a), counted(b)
	if err := value.Worst(a, b); err != 0 {
		return failure(err)
	}
	switch op {
	case "+", "-", "*", "/":
		return calculate(op, a, b)
	case "&":
		return taken(value.Text, join)([]api.Value{a, b})
	case "=", "<>", "<", "<=", ">", ">=":
		return truth(holds(op, compare(a, b)))
	}
	return failure(api.EValue)
}

// Neg is 0 - a.
func Neg(a api.Value) api.Value {
	return Binary("-", number(0), a)
}

// calculate is of values that are no errors.
func calculate(op string, a, b api.Value) api.Value {
	m, errA := value.Number(a)
	n, errB := value.Number(b)
	if errA != 0 || errB != 0 {
		return failure(api.EValue)
	}
	switch {
	case op == "+":
		return result(fixnum.Add(m, n))
	case op == "-":
		return result(fixnum.Sub(m, n))
	case op == "*":
		return result(fixnum.Mul(m, n))
	case n == 0:
		return failure(api.EDiv)
	}
	return result(fixnum.Div(m, n))
}

// compare is value.Compare, but that a blank is what stands for nothing in the other's kind.
func compare(a, b api.Value) int {
	if a.Kind == api.VBlank {
		a.Kind = b.Kind
	}
	if b.Kind == api.VBlank {
		b.Kind = a.Kind
	}
	return value.Compare(a, b)
}

// holds says whether a comparison of two holds that stand so to one another.
func holds(op string, order int) bool {
	switch op {
	case "=":
		return order == 0
	case "<>":
		return order != 0
	case "<":
		return order < 0
	case "<=":
		return order <= 0
	case ">":
		return order > 0
	}
	return order >= 0
}
