package tree

import (
	"math/rand"
	"slices"
	"strings"
	"testing"

	"foolscap/api"
	"foolscap/lex"
)

// The tests hold the package against a second telling of the chapter's words, which shares no code with it: where a text can't go on is told by a machine that goes from state to state, what it means by parting it at the last of its loosest signs, and where brackets are needed by leaving them out.

func number(n int) api.Node {
	return api.Node{Kind: api.NValue, Value: api.Value{Kind: api.Num, N: n}}
}
func text(s string) api.Node {
	return api.Node{Kind: api.NValue, Value: api.Value{Kind: api.Text, S: s}}
}
func truth(b bool) api.Node {
	return api.Node{Kind: api.NValue, Value: api.Value{Kind: api.Bool, B: b}}
}
func fault(c api.Code) api.Node {
	return api.Node{Kind: api.NValue, Value: api.Value{Kind: api.Fault, Code: c}}
}
func at(row, col int) api.Cell             { return api.Cell{At: api.At{Row: row, Col: col}} }
func fixed(c api.Cell, r, k bool) api.Cell { c.FixRow, c.FixCol = r, k; return c }
func one(c api.Cell) api.Node              { return api.Node{Kind: api.NCell, Cell: c} }
func reach(a, b api.Cell) api.Node         { return api.Node{Kind: api.NRange, Cell: a, To: b} }
func neg(k api.Node) api.Node              { return api.Node{Kind: api.NNeg, Kids: []api.Node{k}} }
func bin(s string, a, b api.Node) api.Node {
	return api.Node{Kind: api.NBin, S: s, Kids: []api.Node{a, b}}
}
func call(s string, k ...api.Node) api.Node { return api.Node{Kind: api.NCall, S: s, Kids: k} }

// same holds two nodes against each other; a list without kids is none.
func same(a, b api.Node) bool {
	if a.Kind != b.Kind || a.Value != b.Value || a.Cell != b.Cell || a.To != b.To || a.S != b.S || len(a.Kids) != len(b.Kids) {
		return false
	}
	for i := range a.Kids {
		if !same(a.Kids[i], b.Kids[i]) {
			return false
		}
	}
	return true
}

// copied is a node that shares no memory with another one.
func copied(n api.Node) api.Node {
	n.Kids = slices.Clone(n.Kids)
	for i := range n.Kids {
		n.Kids[i] = copied(n.Kids[i])
	}
	return n
}

func wantDepth(n api.Node) int {
	below := 0
	for _, k := range n.Kids {
		below = max(below, wantDepth(k))
	}
	return 1 + below
}

func wantNodes(n api.Node) int {
	all := 1
	for _, k := range n.Kids {
		all += wantNodes(k)
	}
	return all
}

// linesOfChapter are the signs between two formulas, from the loosest ones on.
var linesOfChapter = [][]string{{"=", "<>", "<", ">", "<=", ">="}, {"&"}, {"+", "-"}, {"*", "/"}}

var signsOfChapter = slices.Concat(linesOfChapter...)

func isSign(t api.Token, among ...string) bool {
	return t.Kind == api.TOp && slices.Contains(among, t.S)
}

// stuck tells at which token a row of tokens can't go on, if there is one.
func stuck(l []api.Token) (int, bool) {
	const (
		begin  = iota // a formula begins
		ended         // a formula has ended
		cell          // so, with a cell
		second        // a range's second cell follows
		called        // a call's bracket follows
		empty         // so, or a call without kids ends
	)
	state := begin
	var calls []bool // for each bracket that is open: is it a call's?
	for i, t := range l {
		within := len(calls) > 0
		switch {
		case (state == begin || state == empty) && t.Kind == api.TValue:
			state = ended
		case (state == begin || state == empty) && t.Kind == api.TCell:
			state = cell
		case (state == begin || state == empty) && t.Kind == api.TName:
			state = called
		case (state == begin || state == empty) && isSign(t, "-"):
			state = begin
		case (state == begin || state == empty) && isSign(t, "("):
			calls, state = append(calls, false), begin
		case state == called && isSign(t, "("):
			calls, state = append(calls, true), empty
		case state == empty && isSign(t, ")"):
			calls, state = calls[:len(calls)-1], ended
		case state == cell && isSign(t, ":"):
			state = second
		case state == second && t.Kind == api.TCell:
			state = ended
		case (state == ended || state == cell) && isSign(t, signsOfChapter...):
			state = begin
		case (state == ended || state == cell) && isSign(t, ")") && within:
			calls, state = calls[:len(calls)-1], ended
		case (state == ended || state == cell) && isSign(t, ",") && within && calls[len(calls)-1]:
			state = begin
		case (state == ended || state == cell) && t.Kind == api.TEnd && !within:
			return 0, false
		default:
			return i, true
		}
	}
	return len(l) - 1, true
}

// lastOf tells the last of some signs that stands between two formulas, outside of all brackets; -1 if there is none.
func lastOf(l []api.Token, signs []string) int {
	last, open := -1, 0
	for i, t := range l {
		switch {
		case isSign(t, "("):
			open++
		case isSign(t, ")"):
			open--
		case open == 0 && i > 0 && isSign(t, signs...) && (l[i-1].Kind != api.TOp || isSign(l[i-1], ")")):
			last = i
		}
	}
	return last
}

// meant tells what tokens mean that can go on to their end, which is not among them.
func meant(l []api.Token) api.Node {
	for _, line := range linesOfChapter {
		if i := lastOf(l, line); i >= 0 {
			return bin(l[i].S, meant(l[:i]), meant(l[i+1:]))
		}
	}
	switch {
	case l[0].Kind == api.TValue:
		return api.Node{Kind: api.NValue, Value: l[0].Value}
	case l[0].Kind == api.TCell && len(l) == 1:
		return one(l[0].Cell)
	case l[0].Kind == api.TCell:
		return reach(l[0].Cell, l[2].Cell)
	case isSign(l[0], "-"):
		return neg(meant(l[1:]))
	case isSign(l[0], "("):
		return meant(l[1 : len(l)-1])
	}
	return call(l[0].S, meantKids(l[2:len(l)-1])...)
}

// meantKids parts what is within a call's brackets at its commas.
func meantKids(l []api.Token) []api.Node {
	var kids []api.Node
	from, open := 0, 0
	for i, t := range l {
		switch {
		case isSign(t, "("):
			open++
		case isSign(t, ")"):
			open--
		case isSign(t, ",") && open == 0:
			kids = append(kids, meant(l[from:i]))
			from = i + 1
		}
	}
	if len(l) == 0 {
		return nil
	}
	return append(kids, meant(l[from:]))
}

type result struct {
	n  api.Node
	at int
	e  api.Errno
}

func asResult(n api.Node, at int, e api.Errno) result { return result{n, at, e} }

func sameResult(a, b result) bool { return same(a.n, b.n) && a.at == b.at && a.e == b.e }

func wantParse(s string) result {
	l, at, e := lex.Scan(s)
	if e != api.OK {
		return result{at: at, e: e}
	}
	if i, no := stuck(l); no {
		return result{at: l[i].At, e: api.ErrSyntax}
	}
	n := meant(l[:len(l)-1])
	if wantDepth(n) > 40 {
		return result{e: api.ErrDeep}
	}
	return result{n: n}
}

// wantPrint writes a right node, with brackets about a kid just where the whole is read as another one without them. Brackets about the other kid do no harm to this one.
func wantPrint(n api.Node) string {
	var kids []string
	for _, k := range n.Kids {
		kids = append(kids, wantPrint(k))
	}
	bare := func(s string) bool {
		l, _, e := lex.Scan(s)
		if e != api.OK {
			return false
		}
		_, no := stuck(l)
		return !no && same(meant(l[:len(l)-1]), n)
	}
	about := func(s string) string { return "(" + s + ")" }
	switch n.Kind {
	case api.NValue:
		return wantValue(n.Value)
	case api.NCell:
		return wantCell(n.Cell)
	case api.NRange:
		return wantCell(n.Cell) + ":" + wantCell(n.To)
	case api.NNeg:
		if bare("-" + kids[0]) {
			return "-" + kids[0]
		}
		return "-" + about(kids[0])
	case api.NBin:
		left, right := about(kids[0]), about(kids[1])
		if bare(kids[0] + n.S + right) {
			left = kids[0]
		}
		if bare(about(kids[0]) + n.S + kids[1]) {
			right = kids[1]
		}
		return left + n.S + right
	}
	return n.S + about(strings.Join(kids, ","))
}

func wantValue(v api.Value) string {
	switch v.Kind {
	case api.Text:
		out := []byte{34}
		for _, c := range []byte(v.S) {
			if out = append(out, c); c == 34 {
				out = append(out, c)
			}
		}
		return string(append(out, 34))
	case api.Bool:
		return map[bool]string{true: "TRUE", false: "FALSE"}[v.B]
	case api.Fault:
		return []string{"#DIV/0!", "#VALUE!", "#REF!", "#NAME?", "#NUM!", "#N/A", "#CYCLE!"}[v.Code-1]
	}
	digits := []byte{}
	for rest, i := v.N, 0; rest > 0 || i < 7; i++ {
		if i == 6 {
			digits = append(digits, '.')
		}
		digits = append(digits, byte('0'+rest%10))
		rest /= 10
	}
	slices.Reverse(digits)
	return strings.TrimSuffix(strings.TrimRight(string(digits), "0"), ".")
}

func wantCell(c api.Cell) string {
	mark := map[bool]string{true: "$"}
	letters, digits := "", ""
	for k := c.At.Col; k > 0; k = (k - 1) / 26 {
		letters = string(rune('A'+(k-1)%26)) + letters
	}
	for r := c.At.Row; r > 0; r /= 10 {
		digits = string(rune('0'+r%10)) + digits
	}
	return mark[c.FixCol] + letters + mark[c.FixRow] + digits
}

// chain is a node of a depth: each is made of the one below it.
func chain(depth int, lowest api.Node, above func(api.Node) api.Node) api.Node {
	n := lowest
	for range depth - 1 {
		n = above(n)
	}
	return n
}

// chains are the ways in which nodes may be deep.
func chains() map[string]func(api.Node) api.Node {
	return map[string]func(api.Node) api.Node{
		"-":               neg,
		"+ on the left":   func(k api.Node) api.Node { return bin("+", k, number(1)) },
		"+ on the right":  func(k api.Node) api.Node { return bin("+", number(1), k) },
		"* on both sides": func(k api.Node) api.Node { return bin("*", neg(neg(number(1))), k) },
		"call":            func(k api.Node) api.Node { return call("F", k) },
		"call's last kid": func(k api.Node) api.Node { return call("F", number(1), k) },
		"call's first":    func(k api.Node) api.Node { return call("F", k, number(1), number(1)) },
	}
}

// valuesOfNodes are values that a node may have, of all kinds and at their edges.
func valuesOfNodes() []api.Node {
	out := []api.Node{truth(true), truth(false)}
	for _, n := range []int{0, 1, 10, 999999, 1000000, 1500000, 12345678, 999999999999999999, 1000000000000000000} {
		out = append(out, number(n))
	}
	for _, s := range []string{"", " ", "a", `"`, `""`, `a"b`, `"a`, `a"`, "TRUE", "1", "A1", "#N/A", "(", `",1,"`, "é", "\xff\x00\n", strings.Repeat("x", 255), strings.Repeat(`"`, 255)} {
		out = append(out, text(s))
	}
	for c := api.Div; c <= api.Cycle; c++ {
		out = append(out, fault(c))
	}
	return out
}

// cellsOfNodes are cells, by themselves and as ranges, with every pair of $.
func cellsOfNodes() []api.Node {
	var out []api.Node
	yes := []bool{false, true}
	for _, c := range []api.Cell{at(1, 1), at(7, 2), at(1048576, 16384), at(1, 16384), at(1048576, 1)} {
		for _, r := range yes {
			for _, k := range yes {
				out = append(out, one(fixed(c, r, k)))
				for _, r2 := range yes {
					for _, k2 := range yes {
						out = append(out, reach(fixed(c, r, k), fixed(at(3, 4), r2, k2)), reach(fixed(at(3, 4), r, k), fixed(c, r2, k2)))
					}
				}
			}
		}
	}
	return out
}

// kinds is a right node of each kind.
func kinds() []api.Node {
	return []api.Node{number(1500000), text(`a"b`), truth(true), fault(api.NA), one(at(1, 1)), reach(at(1, 1), at(2, 2)), neg(number(1000000)), bin("+", number(1000000), one(at(1, 1))), bin("*", number(1000000), number(2000000)), call("F"), call("SUM", number(0), neg(number(1)))}
}

// leaves are short nodes without kids.
var leaves = append(append(valuesOfNodes()[:22], valuesOfNodes()[29:]...), cellsOfNodes()[:36]...)

// anyNode is a right node of at most a depth.
func anyNode(r *rand.Rand, depth int) api.Node {
	k := r.Intn(10)
	switch {
	case depth == 1 || k < 2:
		return leaves[r.Intn(len(leaves))]
	case k < 4:
		return neg(anyNode(r, depth-1))
	case k < 8:
		return bin(signsOfChapter[r.Intn(len(signsOfChapter))], anyNode(r, depth-1), anyNode(r, depth-1))
	}
	kids := make([]api.Node, r.Intn(4))
	for i := range kids {
		kids[i] = anyNode(r, depth-1)
	}
	return call([]string{"F", "SUM", "A1", "TRUE", "LOG10", "A.B_9", "ABCDEFGHIJKLMNOPQRST"}[r.Intn(7)], kids...)
}

// pieces are texts of one token each; a name stands with its bracket.
func pieces() []string {
	return []string{"1", "A1", "F(", "(", ")", "-", "+", "*", "=", "&", ",", ":"}
}

func reads(t *testing.T, s string, want api.Node) {
	t.Helper()
	if got := asResult(Parse(s)); !sameResult(got, result{n: want}) {
		t.Errorf("Parse(%q) = %v, want %v", s, got, want)
	}
}

func refuses(t *testing.T, s string, at int, e api.Errno) {
	t.Helper()
	if got := asResult(Parse(s)); !sameResult(got, result{at: at, e: e}) {
		t.Errorf("Parse(%q) = %v, want error %d at %d", s, got, e, at)
	}
}

func prints(t *testing.T, n api.Node, want string) {
	t.Helper()
	if got, e := Print(n); got != want || e != api.OK {
		t.Errorf("Print(%v) = %q, %d, want %q", n, got, e, want)
	}
}

func printsNot(t *testing.T, n api.Node, want api.Errno) {
	t.Helper()
	if got, e := Print(n); got != "" || e != want {
		t.Errorf("Print = %q, %d, want error %d", got, e, want)
	}
}
