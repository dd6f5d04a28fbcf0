package builtin

import (
	"strings"

	"counterpane/api"
	"counterpane/value"
)

// ofSingles is the function that asks f of its arguments, if each is a single value.
func ofSingles(least, most int, f func(vs []api.Value) api.Value) function {
	return function{least, most, func(args []Arg) api.Value {
		vs, ok := singles(args)
		if !ok {
			return failure(api.EValue)
		}
		return f(vs)
	}}
}

// singles are the arguments' values as they count; false: one of them is not a single value.
func singles(args []Arg) ([]api.Value, bool) {
	vs := make([]api.Value, 0, len(args))
	for _, arg := range args {
		if arg.Range || len(arg.Values) != 1 {
			return nil, false
		}
		vs = append(vs, counted(arg.Values[0]))
	}
	return vs, true
}

// strict is f of values of which none is an error; else the least of them.
func strict(f func(vs []api.Value) api.Value) func(vs []api.Value) api.Value {
	return func(vs []api.Value) api.Value {
		if err := value.Worst(vs...); err != 0 {
			return failure(err)
		}
		return f(vs)
	}
}

func choose(vs []api.Value) api.Value {
	yes, err := value.Truth(vs[0])
	switch {
	case err != 0:
		return failure(err)
	case yes:
		return vs[1]
	case len(vs) == 3:
		return vs[2]
	}
	return truth(false)
}

func allTrue(vs []api.Value) api.Value {
	return truthUnless(vs, false)
}

func someTrue(vs []api.Value) api.Value {
	return truthUnless(vs, true)
}

// truthUnless is what decides, if it is among the truths; else the other truth.
func truthUnless(vs []api.Value, decides bool) api.Value {
	answer := !decides
	for _, v := range vs {
		b, err := value.Truth(v)
		// Behind a truth that decides, too: all are looked at.
		if err != 0 {
			return failure(err)
		}
		if b == decides {
			answer = decides
		}
	}
	return truth(answer)
}

func not(vs []api.Value) api.Value {
	b, err := value.Truth(vs[0])
	if err != 0 {
		return failure(err)
	}
	return truth(!b)
}

func absolute(vs []api.Value) api.Value {
	n, err := value.Number(vs[0])
	switch {
	case err != 0:
		return failure(err)
	case n < 0:
		return Neg(number(n))
	}
	return number(n)
}

func length(vs []api.Value) api.Value {
	s, err := value.Text(vs[0])
	if err != 0 {
		return failure(err)
	}
	return whole(len(s))
}

func join(vs []api.Value) api.Value {
	var all strings.Builder
	for _, v := range vs {
		s, err := value.Text(v)
		if err != 0 {
			return failure(err)
		}
		if all.Len()+len(s) > api.MaxText {
			return failure(api.EValue)
		}
		all.WriteString(s)
	}
	return text(all.String())
}

func isError(vs []api.Value) api.Value {
	return truth(vs[0].Kind == api.VError)
}

func notThere([]api.Value) api.Value {
	return failure(api.ENone)
}
