package builtin

import (
	"math/big"
	"slices"
	"testing"

	"counterpane/api"
	"counterpane/fixnum"
	"counterpane/value"
)

// The model is another way to what Call answers: it walks the chapter's sentences one by one, over bare errors and big numbers.

// pool are arguments of every sort that the chapter tells apart.
func pool() []Arg {
	return []Arg{
		one(""), one("0"), one("2.5"), one("-922337203685477.5808"), one("922337203685477.5807"), one("x"), one("'TRUE"), one("'-3"), one("TRUE"), one("FALSE"), one(letters(198)),
		one("#REF!"), one("#NUM!"), one("#VALUE!"), one("#N/A"),
		just(api.Value{Kind: 9}), just(api.Value{Kind: api.VError, Err: 1, Num: 1}), just(api.Value{Kind: api.VNumber, Num: 5, Err: 3}),
		{}, many(), many("1"), many("-1", "x", "", "4"), many("2", "#DIV/0!"), just(vals("1", "#NAME?")...),
	}
}

// errorOf is the error that v counts as where a single value is wanted; 0: none.
func errorOf(v api.Value) int {
	switch {
	case !value.May(v):
		return api.EValue
	case v.Kind == api.VError:
		return v.Err
	}
	return 0
}

func leastError(vs []api.Value) int {
	var errs []int
	for _, v := range vs {
		if errorOf(v) != 0 {
			errs = append(errs, errorOf(v))
		}
	}
	if len(errs) == 0 {
		return 0
	}
	slices.Sort(errs)
	return errs[0]
}

func modelAggregate(name string, args []Arg) api.Value {
	var nums []*big.Int
	sum, err := new(big.Int), 8
	for _, arg := range args {
		for _, v := range arg.Values {
			switch {
			case !value.May(v):
			case v.Kind == api.VError:
				err = min(err, v.Err)
			case v.Kind == api.VNumber:
				nums = append(nums, big.NewInt(int64(v.Num)))
				sum.Add(sum, big.NewInt(int64(v.Num)))
			}
		}
	}
	slices.SortFunc(nums, (*big.Int).Cmp)
	count := len(nums)
	switch {
	case err < 8:
		return failure(err)
	case name == "COUNT":
		return number(api.Fix(count) * 10000)
	case count == 0 && name == "AVERAGE":
		return failure(api.EDiv)
	case count == 0:
		return number(0)
	case name == "MIN":
		return number(api.Fix(nums[0].Int64()))
	case name == "MAX":
		return number(api.Fix(nums[count-1].Int64()))
	case !sum.IsInt64():
		return failure(api.ENum)
	case name == "AVERAGE":
		sum.Quo(sum, big.NewInt(int64(count)))
	}
	return number(api.Fix(sum.Int64()))
}

func modelIf(vs []api.Value) api.Value {
	taken := truth(false)
	if yes, err := value.Truth(vs[0]); err != 0 {
		return failure(err)
	} else if yes {
		taken = vs[1]
	} else if len(vs) > 2 {
		taken = vs[2]
	}
	if err := errorOf(taken); err != 0 {
		return failure(err)
	}
	return taken
}

func modelTruths(name string, vs []api.Value) api.Value {
	trues, least := 0, 8
	for _, v := range vs {
		b, err := value.Truth(v)
		if err != 0 {
			least = min(least, err)
		}
		if b {
			trues++
		}
	}
	switch {
	case least < 8:
		return failure(least)
	case name == "AND":
		return truth(trues == len(vs))
	case name == "OR":
		return truth(trues > 0)
	}
	return truth(trues == 0)
}

func modelSingle(name string, vs []api.Value) api.Value {
	switch err := leastError(vs); {
	case name == "IF":
		return modelIf(vs)
	case name == "ISERROR":
		return truth(err != 0)
	case name == "NA":
		return failure(api.ENone)
	case name == "AND" || name == "OR" || name == "NOT":
		return modelTruths(name, vs)
	case err != 0:
		return failure(err)
	}
	if name == "ABS" {
		n, err := value.Number(vs[0])
		switch {
		case err != 0:
			return failure(err)
		case n == lowest:
			return failure(api.ENum)
		}
		return number(max(n, -n))
	}
	all := ""
	for _, v := range vs {
		s, _ := value.Text(v)
		all += s
	}
	switch {
	case name == "LEN":
		return number(api.Fix(len(all)) * 10000)
	case len(all) > 200:
		return failure(api.EValue)
	}
	return text(all)
}

func model(name string, args []Arg) api.Value {
	numberWrong := map[string]bool{
		"IF": len(args) != 2 && len(args) != 3, "AND": len(args) == 0, "OR": len(args) == 0, "NA": len(args) != 0,
		"NOT": len(args) != 1, "ABS": len(args) != 1, "LEN": len(args) != 1, "ISERROR": len(args) != 1,
	}
	switch {
	case !slices.Contains(allNames(), name):
		return failure(api.EName)
	case slices.Contains(aggregates(), name):
		return modelAggregate(name, args)
	case numberWrong[name]:
		return failure(api.EValue)
	}
	var vs []api.Value
	for _, arg := range args {
		if arg.Range || len(arg.Values) != 1 {
			return failure(api.EValue)
		}
		vs = append(vs, arg.Values[0])
	}
	return modelSingle(name, vs)
}

func checkModel(t *testing.T, args ...Arg) {
	for _, name := range append(allNames(), "NOPE") {
		got := Call(name, args...)
		if want := model(name, args); got != want {
			t.Fatalf("P12.1: %s of %s: %s; want %s", name, told(args), told(got), told(want))
		}
		if !value.May(got) {
			t.Fatalf("P12.1: %s of %s: %s, which may not be", name, told(args), told(got))
		}
	}
}

func TestCallsAgainstTheModel(t *testing.T) {
	checkModel(t)
	for _, a := range pool() {
		checkModel(t, a)
		for _, b := range pool() {
			checkModel(t, a, b)
			for _, c := range pool() {
				checkModel(t, a, b, c)
			}
			checkModel(t, a, b, a, b)
		}
	}
}

// modelArithmetic is of two numbers.
func modelArithmetic(op string, m, n api.Fix) api.Value {
	a, b, unit := big.NewInt(int64(m)), big.NewInt(int64(n)), big.NewInt(10000)
	switch op {
	case "+":
		a.Add(a, b)
	case "-":
		a.Sub(a, b)
	case "*":
		a.Mul(a, b).Quo(a, unit)
	case "/":
		if n == 0 {
			return failure(api.EDiv)
		}
		a.Mul(a, unit).Quo(a, b)
	}
	if !a.IsInt64() {
		return failure(api.ENum)
	}
	return number(api.Fix(a.Int64()))
}

func TestArithmeticAgainstBig(t *testing.T) {
	var list []api.Fix
	for _, n := range []api.Fix{0, 1, 2, 3, 5000, 9999, 10000, 10001, 15000, 30000, 70001, 3037000499976, most / 20000, most / 10000, most / 2, most} {
		list = append(list, n, -n, -n-1)
	}
	for _, m := range list {
		for _, n := range list {
			for _, op := range []string{"+", "-", "*", "/"} {
				want := modelArithmetic(op, m, n)
				// Texts that are numbers give the same.
				for _, a := range []api.Value{number(m), text(fixnum.Print(m))} {
					for _, b := range []api.Value{number(n), text(fixnum.Print(n))} {
						if got := Binary(op, a, b); got != want {
							t.Fatalf("P12.2: %s %s %s: %s; want %s", told(a), op, told(b), told(got), told(want))
						}
					}
				}
			}
		}
	}
}
