package parse

import (
	"counterpane/a1"
	"counterpane/api"
	"counterpane/value"
)

func fits(e api.Expr) bool {
	return Count(e) <= api.MaxNodes && shallow(e, api.MaxDepth)
}

// shallow says whether e is at most most deep.
func shallow(e api.Expr, most int) bool {
	if most == 0 {
		return false
	}
	for _, kid := range e.Kids {
		if !shallow(kid, most-1) {
			return false
		}
	}
	return true
}

func mayAll(e api.Expr) bool {
	if !mayNode(e) {
		return false
	}
	for _, kid := range e.Kids {
		if !mayAll(kid) {
			return false
		}
	}
	return true
}

// mayNode asks of e alone, not of its kids: are the fields of its Kind such as may be, and the others zero?
func mayNode(e api.Expr) bool {
	ok, rest := false, e
	switch e.Kind {
	case api.XNum:
		ok, rest.Num = e.Num >= 0, 0
	case api.XText:
		ok, rest.Text = value.May(api.Value{Kind: api.VText, Text: e.Text}), ""
	case api.XBool:
		ok, rest.Bool = true, false
	case api.XErr:
		ok, rest.Err = value.Name(e.Err) != "", 0
	case api.XRef:
		ok, rest.Refs = len(e.Refs) == 1 && mayRef(e.Refs[0]), nil
	case api.XRange:
		ok, rest.Refs = mayRange(e.Refs), nil
	case api.XNeg:
		ok, rest.Kids = len(e.Kids) == 1, nil
	case api.XBin:
		ok, rest.Text, rest.Kids = strength(e.Text) >= weakest && len(e.Kids) == 2, "", nil
	case api.XCall:
		ok, rest.Text, rest.Kids = mayName(e.Text) && len(e.Kids) <= api.MaxArgs, "", nil
	}
	return ok && bare(rest)
}

// bare says whether e has nothing but its Kind.
func bare(e api.Expr) bool {
	return e.Num == 0 && e.Text == "" && !e.Bool && e.Err == 0 && len(e.Refs) == 0 && len(e.Kids) == 0
}

func mayRef(r api.Ref) bool {
	return a1.Print(r) != ""
}

func mayRange(ends []api.Ref) bool {
	return len(ends) == 2 && mayRef(ends[0]) && mayRef(ends[1]) && ends[1].Sheet == ""
}

func mayName(name string) bool {
	if len(name) == 0 || len(name) > api.MaxName || isTruth(name) {
		return false
	}
	for i := range len(name) {
		if name[i] < 'A' || name[i] > 'Z' {
			return false
		}
	}
	return true
}

func isTruth(name string) bool {
	return name == "TRUE" || name == "FALSE"
}
