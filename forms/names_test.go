package forms

import (
	"math/rand"
	"slices"
	"strings"
	"testing"

	"foolscap/api"
)

// P9.3: the chapter's example, and some by hand.
func TestRectsExamples(t *testing.T) {
	a1, both := api.Rect{Top: 1, Left: 1, Bottom: 1, Right: 1}, api.Rect{Top: 1, Left: 1, Bottom: 2, Right: 2}
	rects(t, of(t, "A1+SUM(B2:A1)*A1"), a1, both)
	rects(t, of(t, "SUM(B2:A1)*A1+A1:B2"), both, a1)
	rects(t, of(t, "1"))
	rects(t, of(t, "#REF!"))
	rects(t, of(t, `"A1"&TRUE`))
	rects(t, of(t, "NA()"))
	rects(t, of(t, "A1"), a1)
	rects(t, of(t, "-$A1"), a1)
	rects(t, of(t, "A1:B2"), both)
	rects(t, of(t, "XFD1048576:A1"), api.Rect{Top: 1, Left: 1, Bottom: 1048576, Right: 16384})
	rects(t, of(t, "XFD1048576"), api.Rect{Top: 1048576, Left: 16384, Bottom: 1048576, Right: 16384})
	// Functions that there are not, and calls that are wrong, name what they name.
	rects(t, of(t, "FOO(A1,ABS(A1:B2,SUM()))"), a1, both)
}

// P9.3: a place is one rectangle, with and without $, by itself and as a range.
func TestRectsOnce(t *testing.T) {
	one7 := api.Rect{Top: 7, Left: 3, Bottom: 7, Right: 3}
	yes := []bool{false, true}
	var all []api.Node
	for _, r := range yes {
		for _, k := range yes {
			c := fixed(at(7, 3), r, k)
			all = append(all, one(c))
			for _, r2 := range yes {
				for _, k2 := range yes {
					all = append(all, reach(c, fixed(at(7, 3), r2, k2)))
				}
			}
		}
	}
	for _, n := range all {
		rects(t, n, one7)
		for _, m := range all {
			rects(t, bin("+", n, m), one7)
		}
	}
	rects(t, call("SUM", all...), one7)
}

// P9.3: a rectangle is one by either pair of its corners, either way.
func TestRectsCorners(t *testing.T) {
	want := api.Rect{Top: 3, Left: 2, Bottom: 9, Right: 5}
	all := []api.Node{reach(at(3, 2), at(9, 5)), reach(at(9, 5), at(3, 2)), reach(at(3, 5), at(9, 2)), reach(at(9, 2), at(3, 5))}
	for _, n := range all {
		rects(t, n, want)
		for _, m := range all {
			rects(t, call("SUM", n, neg(m)), want)
		}
	}
	// Rectangles with the same corner, or the same rows, are others.
	rects(t, of(t, "B3:E9+B3+E9+B3:E8+B3:D9+B4:E9+C3:E9"), want, api.Rect{Top: 3, Left: 2, Bottom: 3, Right: 2}, api.Rect{Top: 9, Left: 5, Bottom: 9, Right: 5}, api.Rect{Top: 3, Left: 2, Bottom: 8, Right: 5}, api.Rect{Top: 3, Left: 2, Bottom: 9, Right: 4}, api.Rect{Top: 4, Left: 2, Bottom: 9, Right: 5}, api.Rect{Top: 3, Left: 3, Bottom: 9, Right: 5})
	rects(t, of(t, "A2+B1"), api.Rect{Top: 2, Left: 1, Bottom: 2, Right: 1}, api.Rect{Top: 1, Left: 2, Bottom: 1, Right: 2})
}

// P9.3: in the order of the text, not by depth, nor by place.
func TestRectsOrder(t *testing.T) {
	cell := func(row, col int) api.Rect { return api.Rect{Top: row, Left: col, Bottom: row, Right: col} }
	rects(t, of(t, "SUM(-(D4*SUM(C3)),B2)+A1"), cell(4, 4), cell(3, 3), cell(2, 2), cell(1, 1))
	rects(t, of(t, "A1+SUM(B2,-(C3*SUM(D4)))"), cell(1, 1), cell(2, 2), cell(3, 3), cell(4, 4))
	rects(t, of(t, "C1+(B1+(A1+(B1+C1)))"), cell(1, 3), cell(1, 2), cell(1, 1))
	rects(t, of(t, "((C1+B1)+A1)+(D1+C1)"), cell(1, 3), cell(1, 2), cell(1, 1), cell(1, 4))
	// Very many, each named twice.
	var kids []api.Node
	var want []api.Rect
	for i := range 2047 {
		row, col := 1+(i*1583)%2047, 1+i%7
		kids = append(kids, one(at(row, col)))
		want = append(want, cell(row, col))
	}
	rects(t, call("SUM", slices.Concat(kids, kids)...), want...)
	slices.Reverse(kids)
	slices.Reverse(want)
	rects(t, call("SUM", slices.Concat(kids, kids)...), want...)
}

// P9.3, P9.4: formulas by chance, against the second telling, which reads their texts.
func TestNamesAny(t *testing.T) {
	r := rand.New(rand.NewSource(3))
	found := map[bool]int{}
	for range 12000 {
		n := anyFormula(r, 1+r.Intn(6), 20)
		l, ok := tokens(n)
		if !ok {
			continue
		}
		rects(t, n, wantRects(l)...)
		for _, name := range append([]string{"FOO", "SU", "", "sum", "+"}, names...) {
			want := wantUses(l, name)
			uses(t, n, name, want)
			found[want]++
		}
	}
	if found[true] < 10000 || found[false] < 10000 {
		t.Errorf("found: %v", found)
	}
}

// P9.4: a name that is called, however deep; one that is not called.
func TestUses(t *testing.T) {
	uses(t, of(t, "1+ROUND(SUM(2),1)"), "SUM", true)
	uses(t, of(t, "1+ROUND(SUM(2),1)"), "ROUND", true)
	uses(t, of(t, "1+ROUND(SUM(2),1)"), "SUMSQ", false)
	uses(t, of(t, "sum(1)"), "SUM", true)
	uses(t, of(t, "1"), "SUM", false)
	uses(t, of(t, "SUMIF(A1,1)"), "SUM", false)
	uses(t, of(t, "SUM(1)"), "SUMIF", false)
	for _, s := range names {
		n := call(s, fittingKids(known[s], known[s].Least)...)
		for how, above := range holders() {
			if n := chain(39, n, above); wantDepth(n) <= 40 {
				uses(t, n, s, true)
				for _, other := range names {
					if other != s && !strings.HasPrefix(how, other) {
						uses(t, n, other, false)
					}
				}
			}
		}
		// It is called, be it with too few kids or too many.
		uses(t, call(s), s, true)
		uses(t, call(s, slices.Repeat([]api.Node{number(1)}, 50)...), s, true)
	}
}

// P9.4: names as they do not stand there: in small letters, in part, and what no call has for a name.
func TestUsesStrange(t *testing.T) {
	n := call("SUM", slices.Repeat([]api.Node{bin("+", text("FOO"), one(at(1, 1)))}, 30)...)
	for _, s := range names {
		n = call("SUM", n, call(s, one(at(1, 1))))
		if wantDepth(n) > 36 {
			n = call("SUM", one(at(1, 1)))
		}
		for _, name := range strangeNames()[:40] {
			uses(t, n, name, false)
		}
	}
	all := call("SUM")
	for _, s := range names {
		all.Kids = append(all.Kids, call(s, number(1)))
		uses(t, all, s, true)
	}
	for _, name := range strangeNames() {
		uses(t, all, name, false)
	}
	for _, s := range []string{"+", "-", "", "SUM", "1", "A1"} {
		for _, n := range []api.Node{number(1000000), text("SUM"), text("+"), one(at(1, 1)), neg(number(1)), bin("+", number(1), text("SUM")), bin("-", number(1), number(2)), fault(api.Name)} {
			uses(t, n, s, false)
		}
	}
	// A function that there is not is called all the same, as a formula's text may have it.
	uses(t, of(t, "1+FOO(2)"), "FOO", true)
	uses(t, of(t, "1+FOO(2)"), "SUM", false)
	uses(t, of(t, "1+FOO(2)"), "foo", false)
	uses(t, of(t, "1+FOO(2)"), "FO", false)
}

// Rules: what is told is new memory, and what is handed in stays as it was, also behind its lists' ends.
func TestNothingChanges(t *testing.T) {
	room := make([]api.Node, 2, 4)
	room[0], room[1] = one(at(2, 2)), reach(at(1, 1), at(3, 3))
	full := room[:4]
	full[2], full[3] = text("behind"), call("FOO")
	n := call("SUM", room...)
	n.Kids = room
	ahead := listed(n)
	first, _ := Rects(n)
	kept := slices.Clone(first)
	for i := range first {
		first[i] = api.Rect{}
	}
	second, _ := Rects(n)
	if !slices.Equal(second, kept) || Check(n) != api.OK || !Uses(n, "SUM") || Uses(n, "FOO") {
		t.Errorf("Rects tells %v, then %v", kept, second)
	}
	after := listed(n)
	for i := range ahead {
		if ahead[i].Kind != after[i].Kind || ahead[i].Cell != after[i].Cell || ahead[i].To != after[i].To || ahead[i].S != after[i].S {
			t.Errorf("%v has become %v", ahead[i], after[i])
		}
	}
	if full[2].Value.S != "behind" || full[3].S != "FOO" {
		t.Errorf("behind the list's end there is %v", full[2:])
	}
}
