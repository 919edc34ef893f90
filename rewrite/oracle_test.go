package rewrite

import (
	"math/rand"
	"slices"
	"testing"

	"foolscap/api"
	"foolscap/lex"
	"foolscap/place"
	"foolscap/tree"
)

// The tests hold the package against a second telling of the chapter's words, which shares no code with it: a formula's text is cut at its tokens, its cells and ranges are told anew, line by line, and the text that comes of it is read again.

const (
	lastRow = 1048576
	lastCol = 16384
)

func number(n int) api.Node {
	return api.Node{Kind: api.NValue, Value: api.Value{Kind: api.Num, N: n}}
}
func text(s string) api.Node {
	return api.Node{Kind: api.NValue, Value: api.Value{Kind: api.Text, S: s}}
}
func truth(b bool) api.Node {
	return api.Node{Kind: api.NValue, Value: api.Value{Kind: api.Bool, B: b}}
}
func fault(c api.Code) api.Node {
	return api.Node{Kind: api.NValue, Value: api.Value{Kind: api.Fault, Code: c}}
}
func at(row, col int) api.Cell             { return api.Cell{At: api.At{Row: row, Col: col}} }
func fixed(c api.Cell, r, k bool) api.Cell { c.FixRow, c.FixCol = r, k; return c }
func one(c api.Cell) api.Node              { return api.Node{Kind: api.NCell, Cell: c} }
func reach(a, b api.Cell) api.Node         { return api.Node{Kind: api.NRange, Cell: a, To: b} }
func neg(k api.Node) api.Node              { return api.Node{Kind: api.NNeg, Kids: []api.Node{k}} }
func bin(s string, a, b api.Node) api.Node {
	return api.Node{Kind: api.NBin, S: s, Kids: []api.Node{a, b}}
}
func call(s string, k ...api.Node) api.Node { return api.Node{Kind: api.NCall, S: s, Kids: k} }
func edit(kind api.EditKind, where, many int) api.Edit {
	return api.Edit{Kind: kind, At: where, N: many}
}

func kinds() []api.EditKind   { return []api.EditKind{1, 2, 3, 4} }
func ofRows(e api.Edit) bool  { return e.Kind == 1 || e.Kind == 2 }
func putting(e api.Edit) bool { return e.Kind == 1 || e.Kind == 3 }
func edgeOf(kind api.EditKind) int {
	return []int{0, lastRow, lastRow, lastCol, lastCol}[kind]
}

// turned is a cell whose line along the edit, and across it, are these.
func turned(kind api.EditKind, line, across int) api.Cell {
	if kind < 3 {
		return at(line, across)
	}
	return at(across, line)
}

// of reads a formula.
func of(t *testing.T, s string) api.Node {
	t.Helper()
	n, _, e := tree.Parse(s)
	if e != api.OK {
		t.Fatalf("%q is no formula: %d", s, e)
	}
	return n
}

// textOf writes a formula.
func textOf(t *testing.T, n api.Node) string {
	t.Helper()
	s, e := tree.Print(n)
	if e != api.OK {
		t.Fatalf("%v is not written: %d", n, e)
	}
	return s
}

// alike holds two nodes against each other; a list without kids is none.
func alike(a, b api.Node) bool {
	one, two := listed(a), listed(b)
	if len(one) != len(two) {
		return false
	}
	for i := range one {
		a, b := one[i], two[i]
		if a.Kind != b.Kind || a.Value != b.Value || a.Cell != b.Cell || a.To != b.To || a.S != b.S || len(a.Kids) != len(b.Kids) {
			return false
		}
	}
	return true
}

// listed is a node and all beneath it, each ahead of its kids, by a row of what is still to be listed.
func listed(n api.Node) []api.Node {
	var out []api.Node
	for todo := []api.Node{n}; len(todo) > 0; {
		last := todo[len(todo)-1]
		out = append(out, last)
		todo = todo[:len(todo)-1]
		for i := len(last.Kids); i > 0; i-- {
			todo = append(todo, last.Kids[i-1])
		}
	}
	return out
}

// copied is a node that shares no memory with another one.
func copied(n api.Node) api.Node {
	n.Kids = slices.Clone(n.Kids)
	for i := range n.Kids {
		n.Kids[i] = copied(n.Kids[i])
	}
	return n
}

// retold is a formula's text with its cells and ranges told anew.
func retold(t *testing.T, s string, cell func(api.Cell) string, span func(a, b api.Cell) string) string {
	t.Helper()
	l, _, e := lex.Scan(s)
	if e != api.OK {
		t.Fatalf("%q has no tokens: %d", s, e)
	}
	out := ""
	for i := 0; i+1 < len(l); i++ {
		switch {
		case l[i].Kind == api.TCell && l[i+1].S == ":":
			out += span(l[i].Cell, l[i+2].Cell)
			i += 2
		case l[i].Kind == api.TCell:
			out += cell(l[i].Cell)
		default:
			out += s[l[i].At:l[i+1].At]
		}
	}
	return out
}

// named is a cell's text, or the lost reference's, if its place is none.
func named(c api.Cell) string {
	s, e := place.Print(c)
	if e != api.OK {
		return "#REF!"
	}
	return s
}

// landing tells where a line is behind an edit of such lines; 0 is nowhere.
func landing(e api.Edit, line int) int {
	switch {
	case line < e.At:
		return line
	case putting(e) && line+e.N <= edgeOf(e.Kind):
		return line + e.N
	case !putting(e) && line >= e.At+e.N:
		return line - e.N
	}
	return 0
}

// wantMove is the text of a formula behind an edit.
func wantMove(t *testing.T, s string, e api.Edit) string {
	t.Helper()
	// line is a cell's one that the edit is about.
	line := func(c *api.Cell) *int {
		if ofRows(e) {
			return &c.At.Row
		}
		return &c.At.Col
	}
	cell := func(c api.Cell) string {
		*line(&c) = landing(e, *line(&c))
		return named(c)
	}
	span := func(a, b api.Cell) string {
		swap := *line(&a) > *line(&b)
		low, high := min(*line(&a), *line(&b)), max(*line(&a), *line(&b))
		for low < high && landing(e, low) == 0 {
			low++
		}
		for low < high && landing(e, high) == 0 {
			high--
		}
		if landing(e, low) == 0 {
			return "#REF!"
		}
		*line(&a), *line(&b) = landing(e, low), landing(e, high)
		if swap {
			*line(&a), *line(&b) = *line(&b), *line(&a)
		}
		return named(a) + ":" + named(b)
	}
	return retold(t, s, cell, span)
}

// wantShift is the text of a formula so many rows and columns further.
func wantShift(t *testing.T, s string, rows, cols int) string {
	t.Helper()
	cell := func(c api.Cell) string {
		if !c.FixRow {
			c.At.Row += rows
		}
		if !c.FixCol {
			c.At.Col += cols
		}
		return named(c)
	}
	span := func(a, b api.Cell) string {
		if cell(a) == "#REF!" || cell(b) == "#REF!" {
			return "#REF!"
		}
		return cell(a) + ":" + cell(b)
	}
	return retold(t, s, cell, span)
}

// elements are the places in memory of all nodes beneath one, and of what stands behind their lists' ends.
func elements(n api.Node, into map[*api.Node]int) {
	for _, k := range listed(n) {
		room := k.Kids[:cap(k.Kids)]
		for i := range room {
			into[&room[i]]++
		}
	}
}

// sound checks what holds of every answer: it is a formula of the same form as the one that was handed in, which has stayed as it was, and shares no memory with that, nor any two of its lists.
func sound(t *testing.T, how string, ahead, n, got api.Node) {
	t.Helper()
	if !alike(ahead, n) {
		t.Errorf("%s: what was handed in has become %v", how, n)
	}
	if e := tree.Check(got); e != api.OK {
		t.Errorf("%s: no formula: %d", how, e)
	}
	old, now := listed(n), listed(got)
	if len(old) != len(now) {
		t.Errorf("%s: %d nodes have become %d", how, len(old), len(now))
		return
	}
	for i := range old {
		a, b := old[i], now[i]
		ref := a.Kind == api.NCell || a.Kind == api.NRange
		if len(a.Kids) != len(b.Kids) || a.S != b.S || a.Value != b.Value && !ref || a.Kind != b.Kind && !(ref && b.Kind == api.NValue && b.Value == api.Value{Kind: 4, Code: 3}) {
			t.Errorf("%s: %v has become %v", how, a, b)
		}
	}
	met, mine := map[*api.Node]int{}, map[*api.Node]int{}
	elements(n, met)
	elements(got, mine)
	for p, times := range mine {
		if met[p] > 0 || times > 1 {
			t.Errorf("%s: the answer's memory is shared", how)
			return
		}
	}
}

// moves checks Move and Touches of a formula, of which the text behind the edit is known.
func moves(t *testing.T, s string, e api.Edit, want string) {
	t.Helper()
	n := of(t, s)
	s = textOf(t, n)
	ahead := copied(n)
	got, no := Move(n, e)
	if behind, wrong := tree.Print(got); no != api.OK || wrong != api.OK || behind != want {
		t.Errorf("Move(%s, %v) = %q, %d, want %q", s, e, behind, no, want)
		return
	}
	if !alike(got, of(t, want)) {
		t.Errorf("Move(%s, %v) = %v, want %q", s, e, got, want)
	}
	sound(t, "Move of "+s, ahead, n, got)
	if changed, no := Touches(n, e); no != api.OK || changed != (s != want) {
		t.Errorf("Touches(%s, %v) = %v, %d: it becomes %s", s, e, changed, no, want)
	}
	if !alike(ahead, n) {
		t.Errorf("Touches of %s has made it %v", s, n)
	}
}

// movesAsTold checks Move and Touches of a formula against the second telling.
func movesAsTold(t *testing.T, s string, e api.Edit) {
	t.Helper()
	moves(t, s, e, wantMove(t, textOf(t, of(t, s)), e))
}

// shifts checks Shift of a formula, of which the text at the other place is known.
func shifts(t *testing.T, s string, rows, cols int, want string) {
	t.Helper()
	n := of(t, s)
	ahead := copied(n)
	got, no := Shift(n, rows, cols)
	if there, wrong := tree.Print(got); no != api.OK || wrong != api.OK || there != want {
		t.Errorf("Shift(%s, %d, %d) = %q, %d, want %q", s, rows, cols, there, no, want)
		return
	}
	if !alike(got, of(t, want)) {
		t.Errorf("Shift(%s, %d, %d) = %v, want %q", s, rows, cols, got, want)
	}
	sound(t, "Shift of "+s, ahead, n, got)
}

// shiftsAsTold checks Shift of a formula against the second telling.
func shiftsAsTold(t *testing.T, s string, rows, cols int) {
	t.Helper()
	shifts(t, s, rows, cols, wantShift(t, textOf(t, of(t, s)), rows, cols))
}

// marks are the four choices of $ that a cell has.
func marks(c api.Cell) []api.Cell {
	return []api.Cell{c, fixed(c, true, false), fixed(c, false, true), fixed(c, true, true)}
}

// corners are the four ranges of one rectangle: each of its two pairs of corners, either way.
func corners(top, left, bottom, right int) []api.Node {
	return []api.Node{
		reach(at(top, left), at(bottom, right)), reach(at(bottom, right), at(top, left)),
		reach(at(top, right), at(bottom, left)), reach(at(bottom, left), at(top, right)),
	}
}

// anyFormula is one by chance, of at most a depth, with its cells where chance says.
func anyFormula(r *rand.Rand, depth int, cell func() api.Cell) api.Node {
	k := r.Intn(12)
	switch {
	case depth == 1 || k < 2:
		return anyLeaf(r, cell)
	case k < 4:
		return neg(anyFormula(r, depth-1, cell))
	case k < 8:
		sign := []string{"=", "<>", "<", ">", "<=", ">=", "&", "+", "-", "*", "/"}[r.Intn(11)]
		return bin(sign, anyFormula(r, depth-1, cell), anyFormula(r, depth-1, cell))
	}
	kids := make([]api.Node, r.Intn(4))
	for i := range kids {
		kids[i] = anyFormula(r, depth-1, cell)
	}
	return call([]string{"F", "SUM", "A1", "XFD1048576", "TRUE", "LOG10", "A.B_9"}[r.Intn(7)], kids...)
}

func anyLeaf(r *rand.Rand, cell func() api.Cell) api.Node {
	switch k := r.Intn(10); {
	case k < 3:
		return one(cell())
	case k < 8:
		return reach(cell(), cell())
	}
	return values()[r.Intn(len(values()))]
}

// values are formulas that refer to nothing, though some of their texts look as if they did.
func values() []api.Node {
	out := []api.Node{number(0), number(1500000), number(1000000000000000000), text(""), text("A1"), text("A1:B2"), text(`"A3"`), text("#REF!"), truth(true), truth(false)}
	for c := api.Div; c <= api.Cycle; c++ {
		out = append(out, fault(c))
	}
	return out
}

// anyCell is a cell near to a place and to both edges, or anywhere, with any $.
func anyCell(r *rand.Rand, row, col int) api.Cell {
	line := func(about, edge int) int {
		n := []int{1 + r.Intn(5), about - 3 + r.Intn(7), about - 3 + r.Intn(7), 1 + r.Intn(edge), edge - r.Intn(5)}[r.Intn(5)]
		return max(1, min(n, edge))
	}
	return fixed(at(line(row, lastRow), line(col, lastCol)), r.Intn(2) == 0, r.Intn(2) == 0)
}

// anyEdit is a right one, by chance: small or great, near to both edges or far off.
func anyEdit(r *rand.Rand) api.Edit {
	kind := kinds()[r.Intn(4)]
	edge := edgeOf(kind)
	where := []int{1 + r.Intn(8), 1 + r.Intn(edge), edge - r.Intn(8)}[r.Intn(3)]
	there := edge - where + 1
	return edit(kind, where, 1+r.Intn(min(there, []int{2, 8, edge}[r.Intn(3)])))
}

// chain is a node of a depth: each is made of the one below it.
func chain(depth int, lowest api.Node, above func(api.Node) api.Node) api.Node {
	n := lowest
	for range depth - 1 {
		n = above(n)
	}
	return n
}

// holders put a formula into a deeper one.
func holders() map[string]func(api.Node) api.Node {
	return map[string]func(api.Node) api.Node{
		"-":                 neg,
		"+ on the left":     func(k api.Node) api.Node { return bin("+", k, number(1)) },
		"* on the right":    func(k api.Node) api.Node { return bin("*", one(at(3, 3)), k) },
		"call":              func(k api.Node) api.Node { return call("SUM", k) },
		"call's first kid":  func(k api.Node) api.Node { return call("F", k, one(at(4, 4)), number(1)) },
		"call's middle kid": func(k api.Node) api.Node { return call("IF", number(1), k, number(2)) },
		"call's last kid":   func(k api.Node) api.Node { return call("G", number(1), reach(at(1, 1), at(4, 4)), k) },
	}
}
