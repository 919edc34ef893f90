package tree

import "foolscap/api"

// No node is gone through beyond these: kids may be shared, and may even be their own kids, so that a few of them in memory are more than could be counted.
const (
	mostDepth = 4 * api.MaxDepth
	mostNodes = 4 * api.MaxEntry
)

// size is how deep and how many the nodes are that were gone through.
type size struct{ depth, nodes int }

func (z *size) fits() bool { return z.depth <= mostDepth && z.nodes <= mostNodes }

// add goes through a node, and stops where the size does not fit any more.
func (z *size) add(n *api.Node, depth int) {
	z.depth = max(z.depth, depth)
	z.nodes++
	for i := range n.Kids {
		if !z.fits() {
			return
		}
		z.add(&n.Kids[i], depth+1)
	}
}

// measure tells a node's depth, or why it is not gone through.
func measure(n *api.Node) (int, api.Errno) {
	var z size
	z.add(n, 1)
	if z.fits() {
		return z.depth, api.OK
	}
	// What has too many nodes may be too deep where it was not gone through.
	if z.depth > mostDepth || tooDeep(n) {
		return 0, api.ErrDeep
	}
	return 0, api.ErrBig
}

// tooDeep goes down level by level, so that it ends, however many nodes there are.
func tooDeep(n *api.Node) bool {
	level := [][]api.Node{{*n}}
	for range mostDepth {
		level = below(level)
	}
	return len(level) > 0
}

// list tells a list of nodes by where it lies.
type list struct {
	first *api.Node
	many  int
}

// below tells the lists of kids that nodes of some lists have, a list that several nodes share only once.
func below(level [][]api.Node) [][]api.Node {
	met := map[list]int{}
	var next [][]api.Node
	for _, nodes := range level {
		for i := range nodes {
			kids := nodes[i].Kids
			if len(kids) == 0 {
				continue
			}
			l := list{&kids[0], len(kids)}
			met[l]++
			if met[l] == 1 {
				next = append(next, kids)
			}
		}
	}
	return next
}
