package forms

import (
	"math/rand"
	"slices"
	"strconv"
	"strings"
	"testing"

	"foolscap/api"
	"foolscap/lex"
	"foolscap/tree"
)

// The tests hold the package against a second telling of the chapter, which shares no code with it: the functions are read from the chapter's own table, what is wrong with a formula is told from the list of its nodes, and what it names and calls from the tokens of its text.

const chapter = `
| ABS, SIGN, INT, SQRT, FACT, EVEN, ODD, NOT, ISERROR, ISNA, ISBLANK, ISNUMBER, ISTEXT, ISLOGICAL, LEN, UPPER, LOWER, TRIM, CHAR, CODE, VALUE, N, T, YEAR, MONTH, DAY, WEEKDAY | 1 | V |
| NA | 0 | |
| ROUND, ROUNDUP, ROUNDDOWN, MOD, POWER, QUOTIENT, CEILING, FLOOR, IFERROR, IFNA, REPT, EXACT, TEXT, EDATE, DAYS | 2 | V V |
| TRUNC, LEFT, RIGHT | 1 to 2 | V V |
| FIND, SEARCH | 2 to 3 | V V V |
| MID, DATE | 3 | V V V |
| REPLACE | 4 | V V V V |
| SUBSTITUTE | 3 to 4 | V V V V |
| IF | 2 to 3 | V V V |
| CHOOSE | 2 to 30 | V V |
| AND, OR, XOR, SUM, PRODUCT, SUMSQ, COUNT, COUNTA, COUNTBLANK, AVERAGE, MIN, MAX, MEDIAN, MODE, GCD, LCM, CONCAT | 1 to 30 | A |
| SUMPRODUCT | 1 to 30 | R |
| LARGE, SMALL | 2 | R V |
| RANK | 2 to 3 | V R V |
| COUNTIF | 2 | R V |
| SUMIF, AVERAGEIF | 2 to 3 | R V R |
| VLOOKUP, HLOOKUP | 3 to 4 | V R V V |
| MATCH | 2 to 3 | V R V |
| INDEX | 2 to 3 | R V V |
| ROWS, COLUMNS | 1 | R |
| ROW, COLUMN | 1 | R |
`

// known are the chapter's functions by their names.
var known = readChapter()

// names are theirs, in order.
var names = sortedNames()

func readChapter() map[string]api.Form {
	out := map[string]api.Form{}
	for _, line := range strings.Split(strings.TrimSpace(chapter), "\n") {
		parts := strings.Split(line, "|")
		least, most, more := strings.Cut(strings.TrimSpace(parts[2]), " to ")
		if !more {
			most = least
		}
		low, err1 := strconv.Atoi(least)
		high, err2 := strconv.Atoi(most)
		if err1 != nil || err2 != nil {
			panic(line)
		}
		var wants []api.Want
		for _, w := range strings.Fields(parts[3]) {
			wants = append(wants, map[string]api.Want{"V": 1, "R": 2, "A": 3}[w])
		}
		for _, name := range strings.Split(strings.TrimSpace(parts[1]), ", ") {
			out[name] = api.Form{Name: name, Least: low, Most: high, Wants: wants}
		}
	}
	return out
}

func sortedNames() []string {
	var out []string
	for name := range known {
		out = append(out, name)
	}
	slices.Sort(out)
	return out
}

// wanted tells what a function wants of its i-th argument, from 0 on.
func wanted(f api.Form, i int) api.Want {
	all := slices.Clone(f.Wants)
	for len(all) <= i {
		all = append(all, f.Wants[len(f.Wants)-1])
	}
	return all[i]
}

func sameForm(a, b api.Form) bool {
	return a.Name == b.Name && a.Least == b.Least && a.Most == b.Most && slices.Equal(a.Wants, b.Wants)
}

func number(n int) api.Node {
	return api.Node{Kind: api.NValue, Value: api.Value{Kind: api.Num, N: n}}
}
func text(s string) api.Node {
	return api.Node{Kind: api.NValue, Value: api.Value{Kind: api.Text, S: s}}
}
func truth(b bool) api.Node {
	return api.Node{Kind: api.NValue, Value: api.Value{Kind: api.Bool, B: b}}
}
func fault(c api.Code) api.Node {
	return api.Node{Kind: api.NValue, Value: api.Value{Kind: api.Fault, Code: c}}
}
func at(row, col int) api.Cell             { return api.Cell{At: api.At{Row: row, Col: col}} }
func fixed(c api.Cell, r, k bool) api.Cell { c.FixRow, c.FixCol = r, k; return c }
func one(c api.Cell) api.Node              { return api.Node{Kind: api.NCell, Cell: c} }
func reach(a, b api.Cell) api.Node         { return api.Node{Kind: api.NRange, Cell: a, To: b} }
func neg(k api.Node) api.Node              { return api.Node{Kind: api.NNeg, Kids: []api.Node{k}} }
func bin(s string, a, b api.Node) api.Node {
	return api.Node{Kind: api.NBin, S: s, Kids: []api.Node{a, b}}
}
func call(s string, k ...api.Node) api.Node { return api.Node{Kind: api.NCall, S: s, Kids: k} }

// of reads a formula.
func of(t *testing.T, s string) api.Node {
	t.Helper()
	n, _, e := tree.Parse(s)
	if e != api.OK {
		t.Fatalf("%q is no formula: %d", s, e)
	}
	return n
}

// listed is a node and all beneath it, each ahead of its kids, by a row of what is still to be listed.
func listed(n api.Node) []api.Node {
	var out []api.Node
	for todo := []api.Node{n}; len(todo) > 0; {
		first := todo[0]
		out = append(out, first)
		todo = append(slices.Clone(first.Kids), todo[1:]...)
	}
	return out
}

// wrongWith tells what is wrong with one call.
func wrongWith(n api.Node) api.Errno {
	f, there := known[n.S]
	if !there {
		return api.ErrNone
	}
	if len(n.Kids) < f.Least || len(n.Kids) > f.Most {
		return api.ErrArity
	}
	for i, k := range n.Kids {
		ranged := k.Kind == 2 || k.Kind == 3 || k.Kind == 1 && k.Value.Kind == api.Fault && k.Value.Code == 3
		if wanted(f, i) == 2 && !ranged {
			return api.ErrArg
		}
	}
	return api.OK
}

func wantCheck(n api.Node) api.Errno {
	if e := tree.Check(n); e != api.OK {
		return e
	}
	for _, k := range listed(n) {
		if k.Kind == api.NCall && wrongWith(k) != api.OK {
			return wrongWith(k)
		}
	}
	return api.OK
}

// tokens are those of a formula's text; none, if the text is too long.
func tokens(n api.Node) ([]api.Token, bool) {
	s, e := tree.Print(n)
	if e != api.OK {
		return nil, false
	}
	l, _, e := lex.Scan(s)
	return l, e == api.OK
}

// wantRects tells the rectangles that a text has, from its front on.
func wantRects(l []api.Token) []api.Rect {
	var out []api.Rect
	for i := 0; i < len(l); i++ {
		if l[i].Kind != api.TCell {
			continue
		}
		a, b := l[i].Cell.At, l[i].Cell.At
		if l[i+1].S == ":" {
			b = l[i+2].Cell.At
			i += 2
		}
		r := api.Rect{Top: min(a.Row, b.Row), Left: min(a.Col, b.Col), Bottom: max(a.Row, b.Row), Right: max(a.Col, b.Col)}
		if !slices.Contains(out, r) {
			out = append(out, r)
		}
	}
	return out
}

// wantUses tells whether a name stands in a text as a call's.
func wantUses(l []api.Token, name string) bool {
	return slices.ContainsFunc(l, func(t api.Token) bool { return t.Kind == api.TName && t.S == name })
}

// fitting is a kid that a function takes for its i-th argument.
func fitting(f api.Form, i int) api.Node {
	if wanted(f, i) == api.WantRange {
		return reach(at(1, 1), at(2, 2))
	}
	return number(1)
}

// fittingKids are so many of them.
func fittingKids(f api.Form, many int) []api.Node {
	var kids []api.Node
	for i := range many {
		kids = append(kids, fitting(f, i))
	}
	return kids
}

// ranges may stand where a range is wanted.
func ranges() []api.Node {
	out := []api.Node{fault(api.Ref)}
	for _, r := range []bool{false, true} {
		for _, k := range []bool{false, true} {
			out = append(out, one(fixed(at(7, 3), r, k)), reach(fixed(at(1, 1), r, k), at(2, 2)), reach(at(5, 5), fixed(at(2, 2), k, r)))
		}
	}
	return append(out, one(at(1048576, 16384)), reach(at(1, 1), at(1048576, 16384)), reach(at(4, 4), at(4, 4)))
}

// others may not; each of them passes by itself.
func others() []api.Node {
	out := []api.Node{number(0), number(3000000), text(""), text("#REF!"), text("A1"), text("A1:B2"), truth(true), truth(false)}
	for c := api.Div; c <= api.Cycle; c++ {
		if c != api.Ref {
			out = append(out, fault(c))
		}
	}
	a, r, lost := one(at(1, 1)), reach(at(1, 1), at(2, 2)), fault(api.Ref)
	return append(out, neg(a), neg(r), neg(lost), bin("+", a, a), bin("=", r, r), bin("&", lost, lost), call("SUM", r), call("INDEX", r, number(1)), call("NA"), call("IF", truth(true), a, r), call("CHOOSE", number(1), r))
}

// anyFormula is one by chance, of at most a depth. What stands where a range is wanted is one, the calls are of functions that there are, and take as many kids as they may, but with a chance of one in wild.
func anyFormula(r *rand.Rand, depth, wild int) api.Node {
	strange := func() bool { return wild > 0 && r.Intn(wild) == 0 }
	k := r.Intn(12)
	switch {
	case depth == 1 || k < 2:
		return anyLeaf(r)
	case k < 3:
		return neg(anyFormula(r, depth-1, wild))
	case k < 6:
		return bin([]string{"=", "<>", "<=", "&", "+", "-", "*", "/"}[r.Intn(8)], anyFormula(r, depth-1, wild), anyFormula(r, depth-1, wild))
	}
	f := known[names[r.Intn(len(names))]]
	many := f.Least + r.Intn(min(f.Most-f.Least, 3)+1)
	if strange() {
		many = r.Intn(5)
	}
	kids := make([]api.Node, many)
	for i := range kids {
		kids[i] = anyFormula(r, depth-1, wild)
		if len(f.Wants) > 0 && wanted(f, i) == api.WantRange && !strange() {
			kids[i] = ranges()[r.Intn(len(ranges()))]
		}
	}
	if strange() {
		f.Name = []string{"FOO", "SUMS", "SU", "A1", "TRUE", "N.A", "ISNUMBER_"}[r.Intn(7)]
	}
	return call(f.Name, kids...)
}

// anyLeaf is a formula without kids; its cells lie close together, so that many are named again.
func anyLeaf(r *rand.Rand) api.Node {
	cell := func() api.Cell {
		return fixed(at(1+r.Intn(3), 1+r.Intn(3)), r.Intn(2) == 0, r.Intn(2) == 0)
	}
	switch k := r.Intn(10); {
	case k < 4:
		return one(cell())
	case k < 8:
		return reach(cell(), cell())
	}
	return others()[r.Intn(14)]
}

// chain is a node of a depth: each is made of the one below it.
func chain(depth int, lowest api.Node, above func(api.Node) api.Node) api.Node {
	n := lowest
	for range depth - 1 {
		n = above(n)
	}
	return n
}

// holders put a formula into one that passes, if it does.
func holders() map[string]func(api.Node) api.Node {
	return map[string]func(api.Node) api.Node{
		"-":              neg,
		"+ on the left":  func(k api.Node) api.Node { return bin("+", k, number(1)) },
		"+ on the right": func(k api.Node) api.Node { return bin("+", one(at(1, 1)), k) },
		"SUM":            func(k api.Node) api.Node { return call("SUM", k) },
		"SUM's last":     func(k api.Node) api.Node { return call("SUM", number(1), reach(at(1, 1), at(2, 2)), k) },
		"IF's middle":    func(k api.Node) api.Node { return call("IF", number(1), k, number(2)) },
		"MATCH's first":  func(k api.Node) api.Node { return call("MATCH", k, one(at(1, 1)), number(2)) },
	}
}

func checks(t *testing.T, n api.Node, want api.Errno) {
	t.Helper()
	if got := Check(n); got != want {
		s, _ := tree.Print(n)
		t.Errorf("Check(%s) = %d, want %d", s, got, want)
	}
}

func rects(t *testing.T, n api.Node, want ...api.Rect) {
	t.Helper()
	if got, e := Rects(n); !slices.Equal(got, want) || e != api.OK {
		s, _ := tree.Print(n)
		t.Errorf("Rects(%s) = %v, %d, want %v", s, got, e, want)
	}
}

func uses(t *testing.T, n api.Node, name string, want bool) {
	t.Helper()
	if got := Uses(n, name); got != want {
		s, _ := tree.Print(n)
		t.Errorf("Uses(%s, %q) = %v", s, name, got)
	}
}
