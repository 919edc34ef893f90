package tree

import (
	"foolscap/api"
	"foolscap/place"
	"foolscap/value"
)

// right tells whether a node is right, and all its kids are. It is asked of none that measure refuses.
func right(n *api.Node) bool {
	if !rightAlone(*n) {
		return false
	}
	for i := range n.Kids {
		if !right(&n.Kids[i]) {
			return false
		}
	}
	return true
}

// rightAlone tells whether a node is right but for its kids' own parts. What its kind has is looked at and taken away, so that nothing may be left.
func rightAlone(n api.Node) bool {
	ok := false
	switch n.Kind {
	case api.NValue:
		ok = isConstant(n.Value)
		n.Value = api.Value{}
	case api.NCell:
		ok = isCell(n.Cell)
		n.Cell = api.Cell{}
	case api.NRange:
		ok = isCell(n.Cell) && isCell(n.To)
		n.Cell, n.To = api.Cell{}, api.Cell{}
	case api.NNeg:
		ok = len(n.Kids) == 1
		n.Kids = nil
	case api.NBin:
		ok = binding(n.S) > 0 && len(n.Kids) == 2
		n.S, n.Kids = "", nil
	case api.NCall:
		ok = isName(n.S)
		n.S, n.Kids = "", nil
	}
	return ok && isEmpty(n)
}

// isEmpty tells whether a node has nothing but a kind.
func isEmpty(n api.Node) bool {
	return n.Value == api.Value{} && n.Cell == api.Cell{} && n.To == api.Cell{} && n.S == "" && len(n.Kids) == 0
}

// isConstant tells whether a formula's text may have a value: what is below 0 there is a - of what is not.
func isConstant(v api.Value) bool {
	return value.Check(v) == api.OK && v.Kind != api.Blank && v.N >= 0
}

func isCell(c api.Cell) bool {
	_, e := place.Of(c.At, c.At)
	return e == api.OK
}

func isName(s string) bool {
	if s == "" || len(s) > api.MaxName || !isGreat(s[0]) {
		return false
	}
	for _, c := range []byte(s) {
		if !isGreat(c) && !isDigit(c) && c != '.' && c != '_' {
			return false
		}
	}
	return true
}

func isGreat(c byte) bool { return 'A' <= c && c <= 'Z' }
func isDigit(c byte) bool { return '0' <= c && c <= '9' }
