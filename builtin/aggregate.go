package builtin

import (
	"slices"

	"counterpane/api"
	"counterpane/fixnum"
	"counterpane/value"
)

// aggregate is the function that asks f of all numbers, if there is no error.
func aggregate(f func(nums []api.Fix) api.Value) function {
	return function{0, unbounded, func(args []Arg) api.Value {
		if err := worst(args); err != 0 {
			return failure(err)
		}
		return f(numbers(args))
	}}
}

// worst is the least error among all values; 0: there is none.
func worst(args []Arg) int {
	found := make([]api.Value, 0, len(args))
	for _, arg := range args {
		if err := value.Worst(arg.Values...); err != 0 {
			found = append(found, failure(err))
		}
	}
	return value.Worst(found...)
}

func numbers(args []Arg) []api.Fix {
	var nums []api.Fix
	for _, arg := range args {
		for _, v := range arg.Values {
			if v.Kind == api.VNumber && value.May(v) {
				nums = append(nums, v.Num)
			}
		}
	}
	return nums
}

func sum(nums []api.Fix) api.Value {
	return result(fixnum.Sum(nums...))
}

func least(nums []api.Fix) api.Value {
	if len(nums) == 0 {
		return number(0)
	}
	return number(slices.Min(nums))
}

func greatest(nums []api.Fix) api.Value {
	if len(nums) == 0 {
		return number(0)
	}
	return number(slices.Max(nums))
}

func count(nums []api.Fix) api.Value {
	return whole(len(nums))
}

// average of none divides by 0, and of a sum that is beyond has an error on one side.
func average(nums []api.Fix) api.Value {
	return Binary("/", sum(nums), count(nums))
}

// whole is n whole ones.
func whole(n int) api.Value {
	return result(fixnum.Int(int64(n)))
}
