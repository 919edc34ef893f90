package rewrite

import (
	"slices"

	"foolscap/api"
)

// doing is what is to be done with a formula's references. Each function tells what becomes of one; false: it is lost.
type doing struct {
	cell func(c api.Cell) (api.Cell, bool)
	span func(from, to api.Cell) (api.Cell, api.Cell, bool)
}

// remade makes a node anew, with something done to its cells and ranges. It is asked only of formulas, so that it ends.
func remade(n *api.Node, do doing) api.Node {
	switch n.Kind {
	case api.NCell:
		if c, ok := do.cell(n.Cell); ok {
			return api.Node{Kind: api.NCell, Cell: c}
		}
		return lost()
	case api.NRange:
		if from, to, ok := do.span(n.Cell, n.To); ok {
			return api.Node{Kind: api.NRange, Cell: from, To: to}
		}
		return lost()
	}
	return api.Node{Kind: n.Kind, Value: n.Value, S: n.S, Kids: remadeKids(n.Kids, do)}
}

func remadeKids(kids []api.Node, do doing) []api.Node {
	if len(kids) == 0 {
		return nil
	}
	all := make([]api.Node, len(kids))
	for i := range kids {
		all[i] = remade(&kids[i], do)
	}
	return all
}

// lost is what stands where a reference was.
func lost() api.Node {
	return api.Node{Kind: api.NValue, Value: api.Value{Kind: api.Fault, Code: api.Ref}}
}

// same tells whether two formulas are one; no kids are the same as an empty list of them.
func same(a, b api.Node) bool {
	return a.Kind == b.Kind && a.Value == b.Value && a.Cell == b.Cell && a.To == b.To && a.S == b.S && slices.EqualFunc(a.Kids, b.Kids, same)
}
