package tree

import (
	"math/rand"
	"strings"
	"testing"

	"foolscap/api"
	"foolscap/lex"
)

// formulas are some of every kind, and many by chance.
func formulas(seed int64, many int) []api.Node {
	r := rand.New(rand.NewSource(seed))
	out := append(append(kinds(), valuesOfNodes()...), cellsOfNodes()...)
	for _, above := range chains() {
		out = append(out, chain(38, call("F"), above))
	}
	for len(out) < many {
		out = append(out, anyNode(r, 1+r.Intn(7)))
	}
	return out
}

// P8.4: what is printed is read as it was.
func TestThereAndBack(t *testing.T) {
	printed := 0
	for _, n := range formulas(6, 20000) {
		s, e := Print(n)
		if e != api.OK {
			if e != api.ErrBig || atMost(n) <= 1023 {
				t.Errorf("Print(%v) = %d", n, e)
			}
			continue
		}
		printed++
		reads(t, s, n)
	}
	if printed < 15000 {
		t.Errorf("%d were printed", printed)
	}
}

// atMost tells how long a node's text is with brackets about all kids.
func atMost(n api.Node) int {
	if len(n.Kids) == 0 {
		return len(wantPrint(n))
	}
	long := len(n.S) + 2
	for _, k := range n.Kids {
		long += atMost(k) + 2
	}
	return long
}

// P8.4: of each kind at the depth of 40.
func TestThereAndBackDeep(t *testing.T) {
	for _, lowest := range append(kinds(), cellsOfNodes()[:8]...) {
		for how, above := range chains() {
			n := lowest
			for wantDepth(n) < 40 {
				n = above(n)
			}
			s, e := Print(n)
			if wantDepth(n) != 40 || e != api.OK {
				t.Errorf("Print of %d by %s = %d", wantDepth(n), how, e)
			}
			reads(t, s, n)
		}
	}
}

// P8.5: what is read is printed, and that is read and printed as the same; what is printed is never longer than what was read.
func TestAgain(t *testing.T) {
	r := rand.New(rand.NewSource(7))
	again := func(s string) {
		n, _, e := Parse(s)
		if e != api.OK {
			return
		}
		once, e := Print(n)
		if e != api.OK && (e != api.ErrBig || len(s) < 1024) || len(once) > len(s) {
			t.Errorf("%q is read, but printed %q, %d", s, once, e)
		}
		if e != api.OK {
			return
		}
		reads(t, once, n)
		prints(t, n, once)
	}
	for range 30000 {
		again(scatteredText(r))
	}
	for _, s := range []string{"F(" + strings.Repeat("1,", 510) + "1)", "FF(" + strings.Repeat("1,", 509) + "1)", "ff(" + strings.Repeat("a,", 509) + "1)", strings.Repeat("(", 511) + "a1" + strings.Repeat(")", 511), `"` + strings.Repeat(`""`, 255) + `"&"` + strings.Repeat(`""`, 254) + `x"`, strings.Repeat("0", 40) + "+007.500000"} {
		again(s)
	}
	// A text of as many bytes as may be read, and not be printed.
	s := "F(" + strings.Repeat("1,", 510) + "1)"
	if n, _, e := Parse(s); len(s) != 1024 || e != api.OK {
		t.Errorf("Parse of 1024 bytes = %d", e)
	} else {
		printsNot(t, n, api.ErrBig)
	}
	prints(t, wantParse(strings.Replace(s, "1,", "", 1)).n, strings.Replace(s, "1,", "", 1))
}

// P8.6: blanks between all tokens (but a name and its bracket, which stands just behind it), and brackets about the whole.
func TestBlanks(t *testing.T) {
	r := rand.New(rand.NewSource(8))
	many := 0
	for _, n := range formulas(9, 12000) {
		s, e := Print(n)
		if e != api.OK {
			continue
		}
		l, _, _ := lex.Scan(s)
		var wide strings.Builder
		last := 0
		for i := range l {
			wide.WriteString(s[last:l[i].At])
			if last = l[i].At; i == 0 || l[i-1].Kind != api.TName {
				wide.WriteString(strings.Repeat(" ", 1+r.Intn(3)))
			}
		}
		about := 1 + r.Intn(5)
		for _, other := range []string{wide.String(), "(" + s + ")", strings.Repeat("(", about) + s + strings.Repeat(")", about), " ( " + wide.String() + " ) "} {
			if len(other) <= 1024 {
				reads(t, other, n)
				many++
			}
		}
	}
	if many < 20000 {
		t.Errorf("%d texts were read", many)
	}
}

// P8.6: blanks and brackets do not make a formula of what is none.
func TestBlanksOfNone(t *testing.T) {
	r := rand.New(rand.NewSource(10))
	for range 10000 {
		s := scatteredText(r)
		_, _, e := Parse(s)
		_, _, wide := Parse("  " + s + " ")
		if wide != e {
			t.Errorf("Parse(%q) = %d, with blanks about it %d", s, e, wide)
		}
		if _, _, about := Parse("(" + s + ")"); e == api.OK && about != e {
			t.Errorf("Parse(%q) = %d, with brackets about it %d", s, e, about)
		}
	}
}

// Rules: an answer is new memory, what is handed in is not changed, nor what stands behind its end.
func TestAnswersAreNew(t *testing.T) {
	const s = "F(1,-A1,2+3,G(A1:B2))"
	want := wantParse(s).n
	first, _, _ := Parse(s)
	second, _, _ := Parse(s)
	var spoil func(n *api.Node)
	spoil = func(n *api.Node) {
		_ = append(n.Kids, api.Node{Kind: 9})
		for i := range n.Kids {
			spoil(&n.Kids[i])
			n.Kids[i] = api.Node{Kind: 9, S: "x"}
		}
	}
	spoil(&first)
	if !same(second, want) {
		t.Errorf("an answer was changed with another one: %v", second)
	}
	reads(t, s, want)

	room := make([]api.Node, 5)
	for i := range room {
		room[i] = bin("*", bin("+", number(1), text(`"`)), number(int(i)))
	}
	n := call("F", room[:3]...)
	before, behind := copied(n), copied(call("F", room...))
	Check(n)
	Depth(n)
	if _, e := Print(n); e != api.OK || !same(n, before) || !same(call("F", room...), behind) {
		t.Errorf("what was handed in is changed: %v, %v, %d", n, room, e)
	}
}
