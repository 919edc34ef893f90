package tree

import (
	"math/rand"
	"slices"
	"strconv"
	"strings"
	"testing"

	"foolscap/api"
)

// checks asks Check, and Print, which tells Check's errors ahead of its own.
func checks(t *testing.T, what string, n api.Node, want api.Errno) {
	t.Helper()
	if got := Check(n); got != want {
		t.Errorf("Check of %s = %d, want %d", what, got, want)
	}
	if got, e := Print(n); want != api.OK && (got != "" || e != want) {
		t.Errorf("Print of %s = %q, %d, want %d", what, got, e, want)
	}
}

func deep(t *testing.T, what string, n api.Node, want int) {
	t.Helper()
	if got := Depth(n); got != want {
		t.Errorf("Depth of %s = %d, want %d", what, got, want)
	}
}

// wantCheck tells Check's answer of a right node from its size.
func wantCheck(depth, nodes int) api.Errno {
	switch {
	case depth > 160:
		return api.ErrDeep
	case nodes > 4096:
		return api.ErrBig
	case depth > 40:
		return api.ErrDeep
	}
	return api.OK
}

// checksSize asks Check and Depth of a right node.
func checksSize(t *testing.T, what string, n api.Node, depth, nodes int) {
	t.Helper()
	if got, want := Check(n), wantCheck(depth, nodes); got != want {
		t.Errorf("Check of %s, %d deep, %d nodes = %d, want %d", what, depth, nodes, got, want)
	}
	if depth > 160 || nodes > 4096 {
		depth = 0
	}
	deep(t, what, n, depth)
}

// P8.1: each kind, each value, each cell, each sign, names.
func TestRightNodes(t *testing.T) {
	all := append(append(kinds(), valuesOfNodes()...), cellsOfNodes()...)
	for _, s := range signsOfChapter {
		all = append(all, bin(s, number(1), number(2)))
	}
	for _, s := range []string{"A", "Z", "A1", "TRUE", "SUM", "A.", "A_", "A...", "Z9._", "ABCDEFGHIJKLMNOPQRST", "UVWXYZ.0123456789___"} {
		all = append(all, call(s), call(s, number(1)))
	}
	for _, n := range all {
		checks(t, "a right node", n, api.OK)
		deep(t, "a right node", n, wantDepth(n))
		n.Kids = append([]api.Node{}, n.Kids...)
		checks(t, "one with an empty list", n, api.OK)
	}
}

// wrongNodes are nodes that are not right, each by itself.
func wrongNodes() map[string]api.Node {
	v := func(v api.Value) api.Node { return api.Node{Kind: api.NValue, Value: v} }
	out := map[string]api.Node{
		"nothing": {}, "no kind, with a value": {Value: number(1).Value}, "no kind, with a call's parts": {S: "F", Kids: []api.Node{number(1)}},
		"kind -1": {Kind: -1}, "kind 7": {Kind: 7}, "kind 7 with a value": {Kind: 7, Value: number(1).Value}, "kind 1000": {Kind: 1000, Cell: at(1, 1)},
		"a blank": v(api.Value{}), "a number below 0": number(-1), "the least number": number(-1000000000000000000), "a number too great": number(1000000000000000001), "the least int": number(-1 << 63), "the greatest int": number(1<<63 - 1),
		"a text too long": text(strings.Repeat("x", 256)), "fault 0": fault(0), "fault 8": fault(8), "fault -1": fault(-1), "value of kind 5": v(api.Value{Kind: 5}), "value of kind -1": v(api.Value{Kind: -1}),
		"a blank with a number": v(api.Value{N: 1}), "a number with a text": v(api.Value{Kind: api.Num, S: "1"}), "a number with a truth": v(api.Value{Kind: api.Num, B: true}), "a number with a code": v(api.Value{Kind: api.Num, Code: 1}),
		"a text with a number": v(api.Value{Kind: api.Text, N: 1}), "a text with a number below 0": v(api.Value{Kind: api.Text, N: -1}), "a truth with a text": v(api.Value{Kind: api.Bool, S: "TRUE"}), "a fault with a truth": v(api.Value{Kind: api.Fault, Code: 1, B: true}),
		"a - of nothing": {Kind: api.NNeg}, "a - of two": {Kind: api.NNeg, Kids: []api.Node{number(1), number(1)}},
		"a + of nothing": {Kind: api.NBin, S: "+"}, "a + of one": {Kind: api.NBin, S: "+", Kids: []api.Node{number(1)}}, "a + of three": {Kind: api.NBin, S: "+", Kids: []api.Node{number(1), number(1), number(1)}},
	}
	for _, s := range []string{"", " ", "+ ", " +", "++", "-+", "==", "=<", "=>", "><", "<<", "<>=", "!=", "^", "%", "(", ")", ",", ":", "A", "SUM", "\x00", "＋"} {
		out["the sign "+s] = bin(s, number(1), number(1))
	}
	for _, s := range []string{"", " ", "sum", "Sum", "SUm", "F ", " F", "1", "1A", "_A", ".A", "$A", "A$", "A-", "A(", "A,", "Ä", "É", "Aé", "A\x00", "A\xff", "a", "@", "A@", "A[", "A`", "A{", "A/", "A:", "ABCDEFGHIJKLMNOPQRSTU", "A23456789012345678901", strings.Repeat("A", 1000)} {
		out["the name "+s] = call(s)
		out["the name "+s+" with a kid"] = call(s, number(1))
	}
	for _, c := range []api.Cell{{}, {FixRow: true, FixCol: true}, at(0, 1), at(1, 0), at(-1, 1), at(1, -1), at(1048577, 1), at(1, 16385), at(1<<62, 1), at(1, -1<<63)} {
		which := strconv.Itoa(c.At.Row) + ", " + strconv.Itoa(c.At.Col) + ", " + strconv.FormatBool(c.FixRow)
		out["no cell: "+which] = one(c)
		out["a range from no cell: "+which] = reach(c, at(1, 1))
		out["a range to no cell: "+which] = reach(at(1, 1), c)
	}
	return out
}

// extras are what a node may have beside what its kind has, by the field.
func extras() map[string][]func(n *api.Node) {
	value := func(v api.Value) func(n *api.Node) { return func(n *api.Node) { n.Value = v } }
	cell := func(c api.Cell) func(n *api.Node) { return func(n *api.Node) { n.Cell = c } }
	to := func(c api.Cell) func(n *api.Node) { return func(n *api.Node) { n.To = c } }
	name := func(s string) func(n *api.Node) { return func(n *api.Node) { n.S = s } }
	kids := func(k ...api.Node) func(n *api.Node) { return func(n *api.Node) { n.Kids = k } }
	return map[string][]func(n *api.Node){
		"Value": {value(api.Value{Kind: api.Num}), value(api.Value{Kind: api.Text}), value(api.Value{N: 1}), value(api.Value{N: -1}), value(api.Value{S: "x"}), value(api.Value{B: true}), value(api.Value{Code: 1}), value(api.Value{Kind: 9})},
		"Cell":  {cell(at(1, 1)), cell(at(1, 0)), cell(at(0, 1)), cell(api.Cell{FixRow: true}), cell(api.Cell{FixCol: true})},
		"To":    {to(at(1, 1)), to(at(1, 0)), to(at(0, 1)), to(api.Cell{FixRow: true}), to(api.Cell{FixCol: true})},
		"S":     {name("F"), name("+"), name("x"), name(" "), name("\x00")},
		"Kids":  {kids(number(1)), kids(number(1), number(1)), kids(api.Node{})},
	}
}

// P8.1: what a kind does not have is zero.
func TestNothingBeside(t *testing.T) {
	has := map[api.NodeKind]string{api.NValue: "Value", api.NCell: "Cell", api.NRange: "Cell To", api.NNeg: "Kids", api.NBin: "S Kids", api.NCall: "S Kids"}
	for _, n := range kinds() {
		for field, all := range extras() {
			if strings.Contains(has[n.Kind], field) {
				continue
			}
			for i, put := range all {
				wrong := n
				put(&wrong)
				if got := Check(wrong); got != api.ErrArg {
					t.Errorf("Check of kind %d with a %s of its own, the %d-th = %d", n.Kind, field, i, got)
				}
			}
		}
	}
}

// holders put a node into a right one.
func holders() map[string]func(api.Node) api.Node {
	out := chains()
	out["call's middle kid"] = func(k api.Node) api.Node { return call("F", number(1), k, number(1)) }
	return out
}

// P8.1: wrong nodes by themselves, within right ones, deep within them, and too deep.
func TestWrongNodes(t *testing.T) {
	for what, n := range wrongNodes() {
		checks(t, what, n, api.ErrArg)
		for how, above := range holders() {
			for _, depth := range []int{2, 3, 38, 39, 40, 41, 100, 150} {
				checks(t, what+", deep by "+how, chain(depth, n, above), api.ErrArg)
			}
			for _, depth := range []int{161, 162, 200} {
				checks(t, what+", too deep by "+how, chain(depth, n, above), api.ErrDeep)
			}
		}
		many := make([]api.Node, 4096)
		for i := range many {
			many[i] = number(1)
		}
		for _, i := range []int{0, 2000, 4095} {
			with := append([]api.Node{}, many...)
			with[i] = n
			checks(t, what+" among too many", call("F", with...), api.ErrBig)
		}
	}
	// Above a node that is too deep, all the more.
	checks(t, "a wrong node above all", api.Node{Kind: 9, Kids: []api.Node{chain(200, number(1), neg)}}, api.ErrDeep)
	checks(t, "a wrong node above what is deep", api.Node{Kind: 9, Kids: []api.Node{chain(100, number(1), neg)}}, api.ErrArg)
}

// P8.1: depths, at 40 and 41, at 160 and 161.
func TestDepths(t *testing.T) {
	for how, above := range chains() {
		for depth := 1; depth <= 170; depth++ {
			n := chain(depth, call("F"), above)
			checksSize(t, how, n, wantDepth(n), wantNodes(n))
		}
	}
	r := rand.New(rand.NewSource(1))
	for range 3000 {
		n := anyNode(r, 1+r.Intn(8))
		deep(t, "any node", n, wantDepth(n))
	}
	// Depth asks nothing of what is right.
	deep(t, "nothing", api.Node{}, 1)
	for what, n := range wrongNodes() {
		deep(t, what, n, wantDepth(n))
		deep(t, what, chain(158, n, neg), 157+wantDepth(n))
	}
	deep(t, "a value with kids", api.Node{Kind: api.NValue, Kids: []api.Node{neg(number(1)), number(1)}}, 3)
}

// wideCall is a call of so many nodes in all, the last of which are in a call within it.
func wideCall(nodes int) api.Node {
	inner := call("G")
	for range nodes / 3 {
		inner.Kids = append(inner.Kids, number(1))
	}
	outer := call("F", inner)
	for range nodes - 2 - nodes/3 {
		outer.Kids = append(outer.Kids, one(at(1, 1)))
	}
	return outer
}

// P8.1: 4096 nodes and 4097; those that are too deep besides.
func TestNodes(t *testing.T) {
	for _, many := range []int{2, 100, 4000, 4095, 4096, 4097, 4098, 10000, 100000} {
		n := wideCall(many)
		if got := wantNodes(n); got != many {
			t.Fatalf("%d nodes, not %d", got, many)
		}
		checksSize(t, "many nodes", n, wantDepth(n), many)
	}
	for _, depth := range []int{2, 40, 41, 159, 160, 161, 162, 1000} {
		e := api.ErrBig
		if depth > 160 {
			e = api.ErrDeep
		}
		n := wideCall(5000)
		for _, i := range []int{0, 1, 2500, len(n.Kids)} {
			with := copied(n)
			with.Kids = slices.Insert(with.Kids, i, chain(depth-1, number(1), neg))
			checks(t, "many nodes, one deep", with, e)
			deep(t, "many nodes, one deep", with, 0)
		}
	}
	// Nodes that are too many by being deep and wide at once.
	comb := func(k api.Node) api.Node { return call("F", append(wideCall(30).Kids, k)...) }
	for depth := 2; depth <= 170; depth++ {
		n := chain(depth, number(1), comb)
		checksSize(t, "a comb", n, wantDepth(n), wantNodes(n))
	}
}

// P8.1, rules: every call ends, of nodes that share their kids too: there are more of them than could be counted.
func TestSharedKids(t *testing.T) {
	const plenty = 1 << 40
	twice, manyTwice := number(1), 1
	older, newer, manyOlder, manyNewer := number(1), neg(number(1)), 1, 2
	for depth := 2; depth <= 400; depth++ {
		twice, manyTwice = bin("+", twice, twice), min(plenty, 2*manyTwice+1)
		checksSize(t, "doubled", twice, depth, manyTwice)
		if depth > 2 {
			older, newer = newer, call("F", newer, older, newer)
			manyOlder, manyNewer = manyNewer, min(plenty, 2*manyNewer+manyOlder+1)
		}
		checksSize(t, "of two ages", newer, depth, manyNewer)
	}
	// Kids that are kids of one another's ends.
	row := make([]api.Node, 300)
	for i := range row {
		row[i] = call("F")
		row[i].Kids = row[i+1:]
	}
	for _, many := range []int{1, 5, 12, 13, 14, 40, 100, 160, 161, 300} {
		checksSize(t, "a row", row[300-many], many, 1<<min(many-1, 40))
	}
}

// P8.1: lists that begin with one kid and end at different ones are not the same.
func TestListsOfOneFront(t *testing.T) {
	for _, depth := range []int{10, 158, 159, 200} {
		all := append(slices.Repeat([]api.Node{number(1)}, 3000), chain(depth, number(1), neg))
		short, long := call("F"), call("F")
		short.Kids, long.Kids = all[:3000], all
		checksSize(t, "the short list ahead", call("F", short, long), depth+2, 3000+3001+depth+2)
		checksSize(t, "the long list ahead", call("F", long, short), depth+2, 3000+3001+depth+2)
	}
}

// P8.1, rules: every call ends, of nodes that are their own kids too.
func TestOwnKids(t *testing.T) {
	for many := 1; many <= 5; many++ {
		kids := make([]api.Node, many)
		for i := range kids {
			kids[i] = api.Node{Kind: api.NCall, S: "F", Kids: kids}
		}
		for _, n := range []api.Node{kids[0], neg(kids[0]), bin("+", number(1), kids[0]), call("F", append(wideCall(5000).Kids, kids[0])...)} {
			checks(t, "its own kid", n, api.ErrDeep)
			deep(t, "its own kid", n, 0)
		}
	}
}
