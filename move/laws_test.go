package move

import (
	"math/rand"
	"testing"

	"foolscap/api"
	"foolscap/place"
)

// rightEdits are edge edits, and scattered ones of each kind.
func rightEdits(seed int64, many int) []api.Edit {
	out := edgeEdits()
	for _, kind := range kinds() {
		out = append(out, scatteredEdits(seed, kind, many)...)
	}
	return out
}

// linesAbout are the edges of an edit, and lines at random.
func linesAbout(e api.Edit, r *rand.Rand, many int) []int {
	out := model{e: e}.edges()
	for range many {
		out = append(out, 1+r.Intn(edgeOf(e.Kind)))
	}
	return out
}

// P6.4: a place that stays comes back to where it was.
func TestSpotThereAndBack(t *testing.T) {
	r := rand.New(rand.NewSource(4))
	for _, e := range rightEdits(4, 300) {
		back, wrong := Back(e)
		if again, no := Back(back); wrong != api.OK || no != api.OK || again != e {
			t.Fatalf("Back of Back(%v) = %v, %d", e, again, no)
		}
		many := 0
		for _, line := range linesAbout(e, r, 20) {
			from := turned(e, line, 7)
			behind, fate, _ := Spot(e, from)
			if fate != api.Stays {
				continue
			}
			many++
			if got := asSpot(Spot(back, behind)); got != (spotResult{at: from}) {
				t.Errorf("behind %v, %v is %v, and behind %v %v", e, from, behind, back, got)
			}
		}
		if stay := edgeOf(e.Kind) > e.N; stay != (many > 0) {
			t.Errorf("behind %v %d places are left", e, many)
		}
	}
}

// P6.4: a rectangle none of whose places is gone or off comes back as it was.
func TestRectThereAndBack(t *testing.T) {
	for _, e := range rightEdits(5, 100) {
		back, _ := Back(e)
		for _, s := range stretchesOf(model{e: e}.edges()) {
			from := turnedRect(e, s.first, s.last, 7, 9)
			behind, ok, _ := Rect(e, from)
			if clips, _ := Clips(e, from); clips {
				continue
			}
			if got := asRect(Rect(back, behind)); !ok || got != (rectResult{r: from, ok: true}) {
				t.Errorf("behind %v, %v is %v, and behind %v %v", e, from, behind, back, got)
			}
		}
	}
}

// P6.5: of two places that stay, the one that is ahead is ahead behind the edit, across too.
func TestOrder(t *testing.T) {
	r := rand.New(rand.NewSource(6))
	for _, e := range rightEdits(6, 100) {
		lines := linesAbout(e, r, 10)
		for _, a := range lines {
			for _, b := range lines {
				p, fateP, _ := Spot(e, turned(e, a, 7))
				q, fateQ, _ := Spot(e, turned(e, b, 8))
				if fateP != api.Stays || fateQ != api.Stays {
					continue
				}
				lineP, acrossP, lineQ, acrossQ := p.Row, p.Col, q.Row, q.Col
				if !ofRows(e) {
					lineP, acrossP, lineQ, acrossQ = p.Col, p.Row, q.Col, q.Row
				}
				if (a < b) != (lineP < lineQ) || (a == b) != (lineP == lineQ) || acrossP != 7 || acrossQ != 8 {
					t.Errorf("behind %v, lines %d and %d are at %v and %v", e, a, b, p, q)
				}
			}
		}
	}
}

// P6.5: all lines of a sheet, one by one.
func TestOrderOfAllLines(t *testing.T) {
	for _, e := range []api.Edit{edit(1, 5, 3), edit(1, 1, lastRow/2), edit(2, 5, 3), edit(2, lastRow-9, 10), edit(3, 5, 3), edit(3, 1, lastCol-1), edit(4, 5, 3), edit(4, 2, lastCol/2)} {
		last, many := 0, 0
		for line := 1; line <= edgeOf(e.Kind); line++ {
			a, fate, _ := Spot(e, turned(e, line, 1))
			if fate != api.Stays {
				continue
			}
			here := max(a.Row, a.Col)
			if here <= last || min(a.Row, a.Col) != 1 {
				t.Fatalf("behind %v, line %d is at %v, and the one ahead of it at %d", e, line, a, last)
			}
			last = here
			many++
		}
		if many != edgeOf(e.Kind)-e.N {
			t.Errorf("behind %v, %d lines are left", e, many)
		}
	}
}

// P6.6
func TestInside(t *testing.T) {
	for _, e := range rightEdits(7, 20) {
		lines := model{e: e}.edges()
		for _, s := range stretchesOf(lines) {
			from := turnedRect(e, s.first, s.last, 7, 9)
			behind, _, _ := Rect(e, from)
			for _, line := range lines {
				for _, across := range []int{1, 6, 7, 8, 9, 10} {
					p := turned(e, line, across)
					q, fate, _ := Spot(e, p)
					if fate == api.Stays && (place.In(behind, q) != inside(from, p) || inside(behind, q) != inside(from, p)) {
						t.Errorf("%v is in %v: %v; behind %v, %v in %v: %v", p, from, inside(from, p), e, q, behind, inside(behind, q))
					}
				}
			}
		}
	}
}

// newLines are some of the lines that an edit inserts: the first ones, the last ones, one in the middle.
func newLines(e api.Edit) []int {
	var out []int
	for _, i := range []int{0, 1, 2, e.N / 2, e.N - 2, e.N - 1} {
		if i >= 0 && i < e.N {
			out = append(out, e.At+i)
		}
	}
	return out
}

// P6.7: lines inserted between two lines of a rectangle are in it; those ahead of its first one, or behind its last one, are not.
func TestGrows(t *testing.T) {
	grown, ahead, behindIt := 0, 0, 0
	for _, e := range rightEdits(8, 100) {
		if !putting(e) {
			continue
		}
		for _, s := range stretchesOf(model{e: e}.edges()) {
			from := turnedRect(e, s.first, s.last, 7, 9)
			if clips, _ := Clips(e, from); clips {
				continue
			}
			between := s.first < e.At && e.At <= s.last
			switch {
			case between:
				grown++
			case e.At <= s.first:
				ahead++
			default:
				behindIt++
			}
			behind, _, _ := Rect(e, from)
			for _, line := range newLines(e) {
				for across := 6; across <= 10; across++ {
					want := between && across >= 7 && across <= 9
					if p := turned(e, line, across); place.In(behind, p) != want {
						t.Errorf("behind %v, %v is %v, and has the new place %v: %v", e, from, behind, p, !want)
					}
				}
			}
		}
	}
	if grown == 0 || ahead == 0 || behindIt == 0 {
		t.Errorf("%d rectangles around what is inserted, %d behind it, %d ahead of it", grown, ahead, behindIt)
	}
}

// P6.7: the chapter's examples.
func TestGrowsOfExamples(t *testing.T) {
	e := edit(api.InsRows, 3, 2)
	around, _, _ := Rect(e, rect(2, 1, 3, 1))
	first, _, _ := Rect(e, rect(3, 1, 4, 1))
	for row := 3; row <= 4; row++ {
		if !place.In(around, at(row, 1)) {
			t.Errorf("A2:A3 became %v, without the new row %d", around, row)
		}
		if place.In(first, at(row, 1)) {
			t.Errorf("A3:A4 became %v, with the new row %d", first, row)
		}
	}
}
