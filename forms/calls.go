package forms

import (
	"iter"

	"foolscap/api"
)

// parts hands on a node, and then what its kids are made of, in the order of the text. It is asked only of formulas, so that it ends.
func parts(n *api.Node) iter.Seq[*api.Node] {
	return func(yield func(*api.Node) bool) {
		if !yield(n) {
			return
		}
		for i := range n.Kids {
			for part := range parts(&n.Kids[i]) {
				if !yield(part) {
					return
				}
			}
		}
	}
}

// checkCall tells what is wrong with a call, whatever its kids call.
func checkCall(n *api.Node) api.Errno {
	f, ok := find(n.S)
	switch {
	case !ok:
		return api.ErrNone
	case len(n.Kids) < f.args.least || len(n.Kids) > f.args.most:
		return api.ErrArity
	}
	for i := range n.Kids {
		kid := &n.Kids[i]
		if f.args.want(i) == api.WantRange && !isRange(kid) && !isLost(kid) {
			return api.ErrArg
		}
	}
	return api.OK
}

func isRange(n *api.Node) bool { return n.Kind == api.NRange || n.Kind == api.NCell }

// isLost tells the lost reference, which stands where a range was whose cells are gone.
func isLost(n *api.Node) bool {
	return n.Kind == api.NValue && n.Value == api.Value{Kind: api.Fault, Code: api.Ref}
}
