package builtin

import (
	"slices"
	"strings"

	"counterpane/api"
	"counterpane/value"
)

// ofSingles is the function that asks f of its arguments, if each is a single value.
func ofSingles(least, most int, f func(vs []api.Value) api.Value) function {
	return function{least, most, func(args []Arg) api.Value {
		vs, ok := singles(args)
		if !ok {
			return failure(api.EValue)
		}
		return f(vs)
	}}
}

// singles are the arguments' values as they count; false: one of them is not a single value.
func singles(args []Arg) ([]api.Value, bool) {
	vs := make([]api.Value, 0, len(args))
	for _, arg := range args {
		if arg.Range || len(arg.Values) != 1 {
			return nil, false
		}
		vs = append(vs, counted(arg.Values[0]))
	}
	return vs, true
}

// taken is f of all values, each as a T. A value that is an error and one that is no T fail alike: the least of all failures is the answer.
func taken[T any](as func(v api.Value) (T, int), f func(list []T) api.Value) func(vs []api.Value) api.Value {
	return func(vs []api.Value) api.Value {
		list := make([]T, 0, len(vs))
		var failures []api.Value
		for _, v := range vs {
			x, err := as(v)
			if err != 0 {
				failures = append(failures, failure(err))
				continue
			}
			list = append(list, x)
		}
		if err := value.Worst(failures...); err != 0 {
			return failure(err)
		}
		return f(list)
	}
}

func choose(vs []api.Value) api.Value {
	yes, err := value.Truth(vs[0])
	switch {
	case err != 0:
		return failure(err)
	case yes:
		return vs[1]
	case len(vs) == 3:
		return vs[2]
	}
	return truth(false)
}

func allTrue(truths []bool) api.Value {
	return truth(!slices.Contains(truths, false))
}

func someTrue(truths []bool) api.Value {
	return truth(slices.Contains(truths, true))
}

func not(truths []bool) api.Value {
	return truth(!truths[0])
}

func absolute(nums []api.Fix) api.Value {
	if nums[0] < 0 {
		return Neg(number(nums[0]))
	}
	return number(nums[0])
}

func length(texts []string) api.Value {
	return whole(len(texts[0]))
}

func join(texts []string) api.Value {
	var all strings.Builder
	for _, s := range texts {
		if all.Len()+len(s) > api.MaxText {
			return failure(api.EValue)
		}
		all.WriteString(s)
	}
	return text(all.String())
}

func isError(vs []api.Value) api.Value {
	return truth(vs[0].Kind == api.VError)
}

func notThere([]api.Value) api.Value {
	return failure(api.ENone)
}
