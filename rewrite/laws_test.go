package rewrite

import (
	"math/rand"
	"strings"
	"testing"

	"foolscap/api"
	"foolscap/forms"
	"foolscap/move"
	"foolscap/place"
)

// smallFormulas are formulas whose rectangles have so few places that all of them can be gone through.
func smallFormulas(seed int64, many, row, col int) []api.Node {
	r := rand.New(rand.NewSource(seed))
	var out []api.Node
	for range many {
		out = append(out, anyFormula(r, 1+r.Intn(4), func() api.Cell {
			return fixed(at(row+r.Intn(8), col+r.Intn(8)), r.Intn(2) == 0, r.Intn(2) == 0)
		}))
	}
	return out
}

// inOne tells whether a place is in one of some rectangles.
func inOne(all []api.Rect, a api.At) bool {
	for _, r := range all {
		if place.In(r, a) {
			return true
		}
	}
	return false
}

// P10.4: each place that a formula refers to, and that stays, is one that it refers to behind the edit; of the places that stay there are no others.
func TestFollows(t *testing.T) {
	r := rand.New(rand.NewSource(3))
	stay, gone := 0, 0
	for _, corner := range [][2]int{{1, 1}, {lastRow - 7, lastCol - 7}, {1, lastCol - 7}, {100, 100}} {
		for _, n := range smallFormulas(4, 300, corner[0], corner[1]) {
			ahead, _ := forms.Rects(n)
			for _, kind := range kinds() {
				e := edit(kind, 0, 0)
				e.At = corner[0] + r.Intn(8)
				if !ofRows(e) {
					e.At = corner[1] + r.Intn(8)
				}
				e.N = 1 + r.Intn(min(4, edgeOf(kind)-e.At+1))
				got, _ := Move(n, e)
				behind, _ := forms.Rects(got)
				for row := corner[0]; row < corner[0]+8; row++ {
					for col := corner[1]; col < corner[1]+8; col++ {
						a := api.At{Row: row, Col: col}
						there, fate, _ := move.Spot(e, a)
						if fate != api.Stays {
							gone++
							continue
						}
						stay++
						if inOne(ahead, a) != inOne(behind, there) {
							t.Fatalf("%s behind %v: %v is in it: %v; %v then: %v", textOf(t, n), e, a, inOne(ahead, a), there, inOne(behind, there))
						}
					}
				}
			}
		}
	}
	if stay < 10000 || gone < 10000 {
		t.Errorf("%d stay, %d do not", stay, gone)
	}
}

// pushes tells whether an insertion pushes a place of a formula over the edge.
func pushes(n api.Node, e api.Edit) bool {
	all, _ := forms.Rects(n)
	for _, r := range all {
		if clips, _ := move.Clips(e, r); clips {
			return true
		}
	}
	return false
}

// P10.5: what an insertion makes of a formula, its Back makes the formula again. (What it pushes over the edge is lost, and does not come back.)
func TestBack(t *testing.T) {
	r := rand.New(rand.NewSource(5))
	back, lost := map[bool]int{}, 0
	for range 40000 {
		e := anyEdit(r)
		if !putting(e) {
			continue
		}
		n := anyFormula(r, 1+r.Intn(4), func() api.Cell {
			if r.Intn(3) == 0 {
				return anyCell(r, 1+r.Intn(9), 1+r.Intn(9))
			}
			return fixed(at(1+r.Intn(12), 1+r.Intn(12)), r.Intn(2) == 0, r.Intn(2) == 0)
		})
		if pushes(n, e) {
			lost++
			continue
		}
		there, no := Move(n, e)
		undo, _ := move.Back(e)
		again, also := Move(there, undo)
		if no != api.OK || also != api.OK || !alike(n, again) {
			t.Errorf("%s becomes %s behind %v, and then %s", textOf(t, n), textOf(t, there), e, textOf(t, again))
		}
		back[!alike(n, there)]++
	}
	if back[true] < 1000 || back[false] < 1000 || lost < 1000 {
		t.Errorf("back: %v, lost: %d", back, lost)
	}
}

// P10.5: insertions about each line of ranges by all their corners.
func TestBackOfCorners(t *testing.T) {
	for _, n := range append(append(corners(5, 5, 9, 9), corners(7, 7, 7, 7)...), append(corners(7, 5, 7, 9), corners(5, 7, 9, 7)...)...) {
		for _, kind := range []api.EditKind{api.InsRows, api.InsCols} {
			for where := 1; where <= 11; where++ {
				for many := 1; many <= 6; many++ {
					e := edit(kind, where, many)
					there, _ := Move(n, e)
					undo, _ := move.Back(e)
					if again, no := Move(there, undo); no != api.OK || !alike(n, again) {
						t.Errorf("%s behind %v and back is %v, %d", textOf(t, n), e, again, no)
					}
				}
			}
		}
	}
}

// P10.6: shifted by nothing a formula is itself; shifted there and back it is itself, if nothing went over an edge.
func TestAlike(t *testing.T) {
	r := rand.New(rand.NewSource(6))
	same, over := 0, 0
	for range 30000 {
		n := anyFormula(r, 1+r.Intn(4), func() api.Cell { return anyCell(r, 1+r.Intn(20), 1+r.Intn(20)) })
		s := textOf(t, n)
		if len(s) > 900 {
			continue
		}
		shifts(t, s, 0, 0, s)
		rows, cols := r.Intn(21)-10, r.Intn(21)-10
		there, no := Shift(n, rows, cols)
		if strings.Count(textOf(t, there), "#REF!") > strings.Count(s, "#REF!") {
			over++
			continue
		}
		again, also := Shift(there, -rows, -cols)
		if no != api.OK || also != api.OK || !alike(n, again) {
			t.Errorf("%s shifted by %d, %d is %s, and back %s", s, rows, cols, textOf(t, there), textOf(t, again))
		}
		same++
	}
	if same < 5000 || over < 2000 {
		t.Errorf("%d came back, %d went over an edge", same, over)
	}
}

// P10.7: the form is kept: as many kids, the same signs and names, though all cells are lost.
func TestKeeps(t *testing.T) {
	r := rand.New(rand.NewSource(7))
	for range 5000 {
		n := anyFormula(r, 1+r.Intn(8), func() api.Cell { return fixed(anyCell(r, 9, 9), false, false) })
		ahead := copied(n)
		for _, e := range []api.Edit{anyEdit(r), edit(2, 1, lastRow), edit(3, 1, lastCol)} {
			got, no := Move(n, e)
			if no != api.OK {
				t.Fatalf("Move: %d", no)
			}
			sound(t, "Move", ahead, n, got)
		}
		got, no := Shift(n, lastRow, r.Intn(3)-1)
		if no != api.OK {
			t.Fatalf("Shift: %d", no)
		}
		sound(t, "Shift", ahead, n, got)
		for _, k := range listed(got) {
			if k.Kind == api.NCell || k.Kind == api.NRange {
				t.Errorf("%v went over the edge, and is there", k)
			}
		}
	}
}
