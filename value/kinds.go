package value

import (
	"cmp"

	"foolscap/api"
	"foolscap/num"
)

// How truths are written.
const (
	wordTrue  = "TRUE"
	wordFalse = "FALSE"
)

// names are the faults' names, by their codes.
var names = [...]string{
	api.None:  "",
	api.Div:   "#DIV/0!",
	api.Wrong: "#VALUE!",
	api.Ref:   "#REF!",
	api.Name:  "#NAME?",
	api.Range: "#NUM!",
	api.NA:    "#N/A",
	api.Cycle: "#CYCLE!",
}

func number(n int) api.Value     { return api.Value{Kind: api.Num, N: n} }
func text(s string) api.Value    { return api.Value{Kind: api.Text, S: s} }
func truth(b bool) api.Value     { return api.Value{Kind: api.Bool, B: b} }
func fault(c api.Code) api.Value { return api.Value{Kind: api.Fault, Code: c} }

// right tells whether a value is right. It is held against one that is made anew, which has nothing that its kind does not have.
func right(v api.Value) bool {
	switch v.Kind {
	case api.Blank:
		return v == api.Value{}
	case api.Num:
		return v == number(v.N) && num.Fits(v.N)
	case api.Text:
		return v == text(v.S) && len(v.S) <= api.MaxText
	case api.Bool:
		return v == truth(v.B)
	case api.Fault:
		return v == fault(v.Code) && api.Div <= v.Code && v.Code <= api.Cycle
	}
	return false
}

// trouble tells why a value counts for nothing: a right one has a code only if it is a fault.
func trouble(v api.Value) api.Code {
	if !right(v) {
		return api.Wrong
	}
	return v.Code
}

// troubleOfBoth asks first whether both are right, because a fault does not hide what is not.
func troubleOfBoth(a, b api.Value) api.Code {
	if !right(a) || !right(b) {
		return api.Wrong
	}
	if a.Code != api.None {
		return a.Code
	}
	return b.Code
}

// counted tells the number that a text counts for.
func counted(s string) (int, api.Code) {
	n, e := num.Parse(s)
	if e != api.OK {
		return 0, api.Wrong
	}
	return n, api.None
}

// truthNamed tells the truth that a text names, if it names one.
func truthNamed(s string) (b, ok bool) {
	switch Fold(s) {
	case wordTrue:
		return true, true
	case wordFalse:
		return false, true
	}
	return false, false
}

// faultNamed tells the fault that a text names, None if it names none.
func faultNamed(s string) api.Code {
	for i := range len(names) {
		if names[i] == s {
			return api.Code(i)
		}
	}
	return api.None
}

// beside tells what a value is beside one of a kind: a blank is what that kind has when it has nothing, 0, no bytes or false.
func beside(v api.Value, kind api.Kind) api.Value {
	if v.Kind == api.Blank {
		return api.Value{Kind: kind}
	}
	return v
}

// ordered compares values of which none is a fault, and either both or none is blank. Kinds stand in the order of their numbers.
func ordered(a, b api.Value) int {
	if a.Kind != b.Kind {
		return cmp.Compare(a.Kind, b.Kind)
	}
	switch a.Kind {
	case api.Num:
		return cmp.Compare(a.N, b.N)
	case api.Text:
		return cmp.Compare(Fold(a.S), Fold(b.S))
	case api.Bool:
		return orderedTruths(a.B, b.B)
	}
	return 0
}

// orderedTruths puts false below true.
func orderedTruths(a, b bool) int {
	switch {
	case a == b:
		return 0
	case b:
		return -1
	}
	return 1
}

// folded tells a value with its text folded, so that values can be compared whole.
func folded(v api.Value) api.Value {
	v.S = Fold(v.S)
	return v
}
