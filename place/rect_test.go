package place

import (
	"testing"

	"foolscap/api"
)

// P5.3
func TestCheck(t *testing.T) {
	for _, r := range append(rightRects(), scatteredRects(1, 5000)...) {
		if e := Check(r); e != api.OK {
			t.Errorf("Check(%v) = %d, want OK", r, e)
		}
	}
	for _, r := range wrongRects() {
		if e := Check(r); e != api.ErrArg {
			t.Errorf("Check(%v) = %d, want ErrArg", r, e)
		}
	}
}

// P5.3: all rectangles about the sheet's corners.
func TestCheckAtTheCorners(t *testing.T) {
	for _, corner := range []api.At{at(-1, -1), at(-1, lastCol-2), at(lastRow-2, -1), at(lastRow-2, lastCol-2)} {
		for _, r := range smallRects(corner.Row, corner.Col, 5) {
			if e := Check(r); (e == api.OK) != wantRight(r) || e != api.OK && e != api.ErrArg {
				t.Errorf("Check(%v) = %d", r, e)
			}
		}
	}
}

// P5.3
func TestOf(t *testing.T) {
	for _, c := range []struct {
		a, b api.At
		want api.Rect
	}{
		{at(7, 2), at(2, 3), rect(2, 2, 7, 3)}, {at(2, 3), at(7, 2), rect(2, 2, 7, 3)}, {at(2, 2), at(7, 3), rect(2, 2, 7, 3)}, {at(7, 3), at(2, 2), rect(2, 2, 7, 3)},
		{at(1, 1), at(1, 1), rect(1, 1, 1, 1)}, {at(lastRow, lastCol), at(lastRow, lastCol), rect(lastRow, lastCol, lastRow, lastCol)}, {at(1, 1), at(lastRow, lastCol), rect(1, 1, lastRow, lastCol)}, {at(lastRow, 1), at(1, lastCol), rect(1, 1, lastRow, lastCol)},
		{at(5, 1), at(5, lastCol), rect(5, 1, 5, lastCol)}, {at(lastRow, 9), at(1, 9), rect(1, 9, lastRow, 9)}, {at(20, 30), at(1, 30), rect(1, 30, 20, 30)},
	} {
		if got := asRect(Of(c.a, c.b)); got != (rectResult{r: c.want}) {
			t.Errorf("Of(%v, %v) = %v, want %v", c.a, c.b, got, c.want)
		}
	}
	for _, w := range wrongPlaces() {
		for _, a := range []api.At{at(1, 1), at(7, 2), at(lastRow, lastCol), w, at(0, 0)} {
			if got, back := asRect(Of(w, a)), asRect(Of(a, w)); got != (rectResult{e: api.ErrArg}) || back != got {
				t.Errorf("Of of %v and %v = %v, %v, want ErrArg", w, a, got, back)
			}
		}
	}
}

// P5.3: the rectangle of two places is right, has both, and is in each rectangle that has both.
func TestOfIsTheLeast(t *testing.T) {
	for _, corner := range []api.At{at(1, 1), at(1, lastCol-3), at(lastRow-3, 1), at(lastRow-3, lastCol-3)} {
		rects := smallRects(corner.Row, corner.Col, 4)
		for i := range 16 {
			for j := range 16 {
				a, b := at(corner.Row+i/4, corner.Col+i%4), at(corner.Row+j/4, corner.Col+j%4)
				r, e := Of(a, b)
				if e != api.OK || !wantRight(r) || !wantIn(r, a) || !wantIn(r, b) {
					t.Fatalf("Of(%v, %v) = %v, %d", a, b, r, e)
				}
				for _, other := range rects {
					if wantIn(other, a) && wantIn(other, b) && wantArea(other).n < wantArea(r).n {
						t.Errorf("%v has %v and %v, and is less than %v", other, a, b, r)
					}
				}
			}
		}
	}
	for _, a := range edgePlaces() {
		for _, b := range []api.At{at(1, 1), at(9, 27), at(1000, 702), at(lastRow, lastCol)} {
			if got, back := asRect(Of(a, b)), asRect(Of(b, a)); got.e != api.OK || got != back || !wantIn(got.r, a) || !wantIn(got.r, b) {
				t.Errorf("Of of %v and %v = %v, %v", a, b, got, back)
			}
		}
	}
}

// P5.4
func TestIn(t *testing.T) {
	r := rect(2, 2, 7, 4)
	for _, a := range []api.At{at(2, 2), at(2, 4), at(7, 2), at(7, 4), at(2, 3), at(7, 3), at(4, 2), at(4, 4), at(4, 3)} {
		if !In(r, a) {
			t.Errorf("%v is not in %v", a, r)
		}
	}
	for _, a := range []api.At{at(1, 2), at(1, 3), at(8, 3), at(8, 4), at(4, 1), at(4, 5), at(1, 1), at(8, 5), at(1, 5), at(8, 1), at(0, 3), at(4, 0), at(-4, 3), at(lastRow, 3), at(4, lastCol)} {
		if In(r, a) {
			t.Errorf("%v is in %v", a, r)
		}
	}
	for _, r := range append(rightRects(), scatteredRects(2, 5000)...) {
		for _, a := range about(r) {
			if got, want := In(r, a), wantIn(r, a); got != want {
				t.Errorf("In(%v, %v) = %v, want %v", r, a, got, want)
			}
		}
	}
}

// P5.4
func TestInOfWhatIsWrong(t *testing.T) {
	for _, r := range wrongRects() {
		for _, a := range append(about(r), at(2, 3), at(5, 7), at(4, 5)) {
			if In(r, a) {
				t.Errorf("%v is in %v, which is not right", a, r)
			}
		}
	}
	for _, r := range append(rightRects(), wrongRects()...) {
		for _, a := range wrongPlaces() {
			if In(r, a) {
				t.Errorf("%v, which is no place, is in %v", a, r)
			}
		}
	}
}

// P5.4
func TestMeet(t *testing.T) {
	sheet, r := rect(1, 1, lastRow, lastCol), rect(2, 2, 7, 4)
	none := meetResult{}
	for _, c := range []struct {
		a, b api.Rect
		want meetResult
	}{
		{r, rect(7, 1, 9, 2), meetResult{rect(7, 2, 7, 2), true}}, {r, rect(7, 4, 9, 9), meetResult{rect(7, 4, 7, 4), true}}, {r, rect(1, 1, 2, 2), meetResult{rect(2, 2, 2, 2), true}}, {r, rect(1, 4, 2, 5), meetResult{rect(2, 4, 2, 4), true}}, // at a corner
		{r, rect(7, 1, 9, 9), meetResult{rect(7, 2, 7, 4), true}}, {r, rect(1, 1, 2, 9), meetResult{rect(2, 2, 2, 4), true}}, {r, rect(1, 4, 9, 9), meetResult{rect(2, 4, 7, 4), true}}, {r, rect(3, 1, 5, 2), meetResult{rect(3, 2, 5, 2), true}}, // along a side
		{r, rect(3, 3, 5, 3), meetResult{rect(3, 3, 5, 3), true}}, {r, rect(2, 2, 7, 4), meetResult{r, true}}, {r, sheet, meetResult{r, true}}, {r, rect(1, 1, 8, 5), meetResult{r, true}}, {r, rect(2, 2, 2, 2), meetResult{rect(2, 2, 2, 2), true}}, // one in the other
		{r, rect(4, 1, 5, 9), meetResult{rect(4, 2, 5, 4), true}}, {r, rect(1, 3, 9, 3), meetResult{rect(2, 3, 7, 3), true}}, {r, rect(4, 3, 9, 9), meetResult{rect(4, 3, 7, 4), true}}, {r, rect(1, 3, 4, 9), meetResult{rect(2, 3, 4, 4), true}}, // across
		{r, rect(8, 1, 9, 9), none}, {r, rect(1, 1, 1, 9), none}, {r, rect(1, 1, 9, 1), none}, {r, rect(1, 5, 9, 9), none}, {r, rect(8, 5, 9, 9), none}, {r, rect(1, 1, 1, 1), none}, {r, rect(8, 1, 9, 1), none}, {r, rect(1, 5, 1, 5), none}, {r, rect(100, 100, lastRow, lastCol), none}, // nothing
		{sheet, sheet, meetResult{sheet, true}}, {rect(1, 1, lastRow, 1), rect(1, 1, 1, lastCol), meetResult{rect(1, 1, 1, 1), true}}, {rect(1, lastCol, lastRow, lastCol), rect(lastRow, 1, lastRow, lastCol), meetResult{rect(lastRow, lastCol, lastRow, lastCol), true}}, {rect(1, 1, lastRow, 1), rect(1, lastCol, lastRow, lastCol), none}, {rect(1, 1, 1, lastCol), rect(lastRow, 1, lastRow, lastCol), none},
	} {
		if got, back := asMeet(Meet(c.a, c.b)), asMeet(Meet(c.b, c.a)); got != c.want || back != c.want {
			t.Errorf("Meet of %v and %v = %v, %v, want %v", c.a, c.b, got, back, c.want)
		}
	}
}

// P5.4
func TestMeetOfWhatIsWrong(t *testing.T) {
	for _, w := range wrongRects() {
		for _, r := range append(rightRects(), w, api.Rect{}, rect(5, 7, 2, 3)) {
			if got, back := asMeet(Meet(w, r)), asMeet(Meet(r, w)); got != (meetResult{}) || back != got {
				t.Errorf("Meet of %v and %v = %v, %v, want nothing", w, r, got, back)
			}
		}
	}
}

// P5.4
func TestArea(t *testing.T) {
	for _, c := range []struct {
		r    api.Rect
		want int
	}{
		{rect(1, 1, 1, 1), 1}, {rect(lastRow, lastCol, lastRow, lastCol), 1}, {rect(2, 2, 7, 3), 12}, {rect(5, 1, 5, lastCol), 16384}, {rect(1, 9, lastRow, 9), 1048576}, {rect(1, 1, lastRow, lastCol), 17179869184}, {rect(2, 2, lastRow, lastCol), 1048575 * 16383}, {rect(1, 1, 64, 64), 4096},
	} {
		if got := asInt(Area(c.r)); got != (intResult{n: c.want}) {
			t.Errorf("Area(%v) = %v, want %d", c.r, got, c.want)
		}
	}
	for _, r := range wrongRects() {
		if got := asInt(Area(r)); got != (intResult{e: api.ErrArg}) {
			t.Errorf("Area(%v) = %v, want ErrArg", r, got)
		}
	}
	for _, r := range append(rightRects(), scatteredRects(3, 5000)...) {
		if got, want := asInt(Area(r)), wantArea(r); got != want {
			t.Errorf("Area(%v) = %v, want %v", r, got, want)
		}
	}
}

// P5.4: a rectangle has as many places as are in it.
func TestAreaIsHowManyAreIn(t *testing.T) {
	for _, corner := range []api.At{at(0, 0), at(lastRow-3, lastCol-3)} {
		for _, r := range smallRects(corner.Row, corner.Col, 5) {
			many := 0
			for i := range 25 {
				if In(r, at(corner.Row+i/5, corner.Col+i%5)) {
					many++
				}
			}
			if got := asInt(Area(r)); got.n != many || (got.e == api.OK) != (many > 0) {
				t.Errorf("%d places are in %v, and Area tells %v", many, r, got)
			}
		}
	}
}

// meets holds what two rectangles have together against both, at some places.
func meets(t *testing.T, a, b api.Rect, places []api.At) {
	t.Helper()
	m, ok := Meet(a, b)
	if ok != (Check(m) == api.OK) || !ok && m != (api.Rect{}) {
		t.Fatalf("Meet(%v, %v) = %v, %v", a, b, m, ok)
	}
	for _, p := range places {
		both := wantIn(a, p) && wantIn(b, p)
		if In(m, p) != both || (In(a, p) && In(b, p)) != both {
			t.Errorf("%v: in both of %v and %v: %v; in %v, which they have together: %v", p, a, b, both, m, In(m, p))
		}
	}
}

// P5.7: all pairs of rectangles, right or not, about two corners of the sheet, at all places there.
func TestMeetsOfAllPairs(t *testing.T) {
	for _, corner := range []api.At{at(0, 0), at(lastRow-2, lastCol-2)} {
		var places []api.At
		for i := range 16 {
			places = append(places, at(corner.Row+i/4, corner.Col+i%4))
		}
		rects := smallRects(corner.Row, corner.Col, 4)
		for _, a := range rects {
			for _, b := range rects {
				meets(t, a, b, places)
			}
		}
	}
}

// P5.7
func TestMeetsOfScatteredRects(t *testing.T) {
	rects := append(rightRects(), scatteredRects(4, 200)...)
	for _, a := range rects {
		for _, b := range rects {
			meets(t, a, b, append(about(a), about(b)...))
		}
	}
}
