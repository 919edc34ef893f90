package move

import (
	"math/rand"
	"slices"
	"testing"

	"foolscap/api"
)

// stretch is lines from first to last.
type stretch struct{ first, last int }

// stretchesOf are all stretches whose ends are among some lines, which are in order.
func stretchesOf(lines []int) []stretch {
	var out []stretch
	for i, first := range lines {
		for _, last := range lines[i:] {
			out = append(out, stretch{first, last})
		}
	}
	return out
}

// eachModel calls a test with a model of each edge edit, and of scattered ones.
func eachModel(seed int64, test func(m model)) {
	for _, e := range edgeEdits() {
		test(modelOf(e))
	}
	for _, kind := range kinds() {
		many := 60
		if edgeOf(kind) == lastRow {
			many = 6
		}
		for _, e := range scatteredEdits(seed, kind, many) {
			test(modelOf(e))
		}
	}
}

// P6.1
func TestCheck(t *testing.T) {
	right := edgeEdits()
	for _, kind := range kinds() {
		right = append(right, scatteredEdits(1, kind, 3000)...)
	}
	for _, e := range right {
		if got := Check(e); got != api.OK {
			t.Errorf("Check(%v) = %d, want OK", e, got)
		}
	}
	for _, e := range wrongEdits() {
		if got := Check(e); got != api.ErrArg {
			t.Errorf("Check(%v) = %d, want ErrArg", e, got)
		}
	}
}

// P6.1: all edits about the edges of kinds, of lines and of how many there are.
func TestCheckAtTheEdges(t *testing.T) {
	for kind := api.EditKind(-2); kind <= 7; kind++ {
		for _, edge := range []int{3, lastCol, lastRow} {
			for where := edge - 5; where <= edge+3; where++ {
				for many := -2; many <= 9; many++ {
					right := kind >= 1 && kind <= 4 && where >= 1 && many >= 1 && where-1+many <= edgeOf(kind)
					if e := Check(edit(kind, where, many)); (e == api.OK) != right || e != api.OK && e != api.ErrArg {
						t.Errorf("Check of kind %d, %d, %d = %d", kind, where, many, e)
					}
				}
			}
		}
	}
}

// P6.1
func TestBack(t *testing.T) {
	for _, c := range []struct{ e, want api.Edit }{
		{edit(api.InsRows, 3, 2), edit(api.DelRows, 3, 2)}, {edit(api.DelRows, 3, 2), edit(api.InsRows, 3, 2)}, {edit(api.InsCols, 3, 2), edit(api.DelCols, 3, 2)}, {edit(api.DelCols, 3, 2), edit(api.InsCols, 3, 2)},
		{edit(api.InsRows, 1, lastRow), edit(api.DelRows, 1, lastRow)}, {edit(api.DelCols, lastCol, 1), edit(api.InsCols, lastCol, 1)},
	} {
		if got := asEdit(Back(c.e)); got != (editResult{edit: c.want}) {
			t.Errorf("Back(%v) = %v, want %v", c.e, got, c.want)
		}
	}
	for _, e := range edgeEdits() {
		want := edit([]api.EditKind{0, 2, 1, 4, 3}[e.Kind], e.At, e.N)
		if got := asEdit(Back(e)); got != (editResult{edit: want}) {
			t.Errorf("Back(%v) = %v, want %v", e, got, want)
		}
	}
	for _, e := range wrongEdits() {
		if got := asEdit(Back(e)); got != (editResult{e: api.ErrArg}) {
			t.Errorf("Back(%v) = %v, want ErrArg", e, got)
		}
	}
}

// P6.2: the chapter's examples, and what they are of columns.
func TestSpotOfExamples(t *testing.T) {
	for _, c := range []struct {
		kind     api.EditKind
		from, to int
		fate     api.Fate
	}{
		{api.InsRows, 2, 2, api.Stays}, {api.InsRows, 3, 5, api.Stays}, {api.InsRows, lastRow - 1, 0, api.Off}, {api.InsRows, lastRow - 2, lastRow, api.Stays}, {api.InsRows, lastRow, 0, api.Off},
		{api.DelRows, 2, 2, api.Stays}, {api.DelRows, 3, 0, api.Gone}, {api.DelRows, 4, 0, api.Gone}, {api.DelRows, 5, 3, api.Stays}, {api.DelRows, lastRow, lastRow - 2, api.Stays},
		{api.InsCols, 2, 2, api.Stays}, {api.InsCols, 3, 5, api.Stays}, {api.InsCols, lastCol - 1, 0, api.Off}, {api.InsCols, lastCol - 2, lastCol, api.Stays}, {api.InsCols, lastCol, 0, api.Off},
		{api.DelCols, 2, 2, api.Stays}, {api.DelCols, 3, 0, api.Gone}, {api.DelCols, 4, 0, api.Gone}, {api.DelCols, 5, 3, api.Stays}, {api.DelCols, lastCol, lastCol - 2, api.Stays},
	} {
		e := edit(c.kind, 3, 2)
		want := spotResult{fate: c.fate}
		if c.to > 0 {
			want.at = turned(e, c.to, 1)
		}
		if got := asSpot(Spot(e, turned(e, c.from, 1))); got != want {
			t.Errorf("Spot(%v, %v) = %v, want %v", e, turned(e, c.from, 1), got, want)
		}
	}
}

// P6.2
func TestSpot(t *testing.T) {
	r := rand.New(rand.NewSource(2))
	eachModel(2, func(m model) {
		lines := m.edges()
		for range 50 {
			lines = append(lines, 1+r.Intn(edgeOf(m.e.Kind)))
		}
		for _, line := range lines {
			for _, across := range m.acrossOf() {
				a := turned(m.e, line, across)
				if got, want := asSpot(Spot(m.e, a)), m.spot(line, across); got != want {
					t.Errorf("Spot(%v, %v) = %v, want %v", m.e, a, got, want)
				}
			}
		}
	})
}

// P6.2
func TestSpotOfWhatIsWrong(t *testing.T) {
	for _, e := range wrongEdits() {
		for _, a := range []api.At{at(1, 1), at(3, 3), at(lastRow, lastCol), at(0, 1)} {
			if got := asSpot(Spot(e, a)); got != (spotResult{e: api.ErrArg}) {
				t.Errorf("Spot(%v, %v) = %v, want ErrArg", e, a, got)
			}
		}
	}
	for _, e := range edgeEdits() {
		for _, a := range wrongPlaces() {
			if got := asSpot(Spot(e, a)); got != (spotResult{e: api.ErrArg}) {
				t.Errorf("Spot(%v, %v) = %v, want ErrArg", e, a, got)
			}
		}
	}
}

// P6.3: the chapter's examples and others like them, of rows and of columns.
func TestRectOfExamples(t *testing.T) {
	for _, rows := range []bool{true, false} {
		ins, del, edge := edit(api.InsRows, 3, 2), edit(api.DelRows, 3, 2), lastRow
		if !rows {
			ins, del, edge = edit(api.InsCols, 3, 2), edit(api.DelCols, 3, 2), lastCol
		}
		none := stretch{}
		for _, c := range []struct {
			e        api.Edit
			from, to stretch
			clips    bool
		}{
			{ins, stretch{2, 3}, stretch{2, 5}, false}, {ins, stretch{3, 4}, stretch{5, 6}, false}, {ins, stretch{1, 2}, stretch{1, 2}, false}, {ins, stretch{2, 2}, stretch{2, 2}, false}, {ins, stretch{3, 3}, stretch{5, 5}, false},
			{ins, stretch{edge - 6, edge}, stretch{edge - 4, edge}, true}, {ins, stretch{edge - 2, edge - 2}, stretch{edge, edge}, false}, {ins, stretch{edge - 1, edge}, none, true}, {ins, stretch{edge - 1, edge - 1}, none, true}, {ins, stretch{1, edge}, stretch{1, edge}, true}, {ins, stretch{1, edge - 2}, stretch{1, edge}, false}, {ins, stretch{1, edge - 1}, stretch{1, edge}, true},
			{del, stretch{2, 4}, stretch{2, 2}, true}, {del, stretch{3, 4}, none, true}, {del, stretch{3, 3}, none, true}, {del, stretch{4, 4}, none, true}, {del, stretch{1, 2}, stretch{1, 2}, false}, {del, stretch{5, 6}, stretch{3, 4}, false}, {del, stretch{4, 6}, stretch{3, 4}, true}, {del, stretch{3, 5}, stretch{3, 3}, true}, {del, stretch{2, 5}, stretch{2, 3}, true}, {del, stretch{1, edge}, stretch{1, edge - 2}, true}, {del, stretch{edge, edge}, stretch{edge - 2, edge - 2}, false},
		} {
			r, want := turnedRect(c.e, c.from.first, c.from.last, 1, 1), rectResult{}
			if c.to != none {
				want = rectResult{r: turnedRect(c.e, c.to.first, c.to.last, 1, 1), ok: true}
			}
			if got := asRect(Rect(c.e, r)); got != want {
				t.Errorf("Rect(%v, %v) = %v, want %v", c.e, r, got, want)
			}
			if got := asClips(Clips(c.e, r)); got != (clipsResult{clips: c.clips}) {
				t.Errorf("Clips(%v, %v) = %v, want %v", c.e, r, got, c.clips)
			}
		}
	}
}

// P6.3
func TestRectAndClips(t *testing.T) {
	eachModel(3, func(m model) {
		for _, s := range stretchesOf(m.edges()) {
			for _, across := range stretchesOf(m.acrossOf()) {
				r := turnedRect(m.e, s.first, s.last, across.first, across.last)
				if got, want := asRect(Rect(m.e, r)), m.rect(s.first, s.last, across.first, across.last); got != want {
					t.Errorf("Rect(%v, %v) = %v, want %v", m.e, r, got, want)
				}
				if got, want := asClips(Clips(m.e, r)), m.clips(s.first, s.last); got != want {
					t.Errorf("Clips(%v, %v) = %v, want %v", m.e, r, got, want)
				}
			}
		}
	})
}

// P6.3: the rectangle behind an edit has all places that stay, each of its sides has one of them, and one that has none is none; it is clipped just if one does not stay.
func TestRectIsTheLeastOfItsSpots(t *testing.T) {
	for _, e := range []api.Edit{edit(1, 3, 2), edit(1, 1, 1), edit(1, lastRow-5, 4), edit(1, lastRow-5, 6), edit(2, 3, 2), edit(2, 1, 3), edit(2, lastRow-5, 4), edit(2, lastRow-5, 6), edit(3, 3, 2), edit(3, 1, 1), edit(3, lastCol-5, 4), edit(3, lastCol-5, 6), edit(4, 3, 2), edit(4, 1, 3), edit(4, lastCol-5, 4), edit(4, lastCol-5, 6)} {
		edge := edgeOf(e.Kind)
		for _, s := range append(stretchesOf([]int{1, 2, 3, 4, 5, 6, 7, 8}), stretchesOf([]int{edge - 7, edge - 6, edge - 5, edge - 4, edge - 3, edge - 2, edge - 1, edge})...) {
			r := turnedRect(e, s.first, s.last, 6, 7)
			var rows, cols []int
			all := true
			for line := s.first; line <= s.last; line++ {
				for across := 6; across <= 7; across++ {
					a, fate, _ := Spot(e, turned(e, line, across))
					if fate != api.Stays {
						all = false
						continue
					}
					rows, cols = append(rows, a.Row), append(cols, a.Col)
				}
			}
			want := rectResult{}
			if len(rows) > 0 {
				want = rectResult{r: rect(slices.Min(rows), slices.Min(cols), slices.Max(rows), slices.Max(cols)), ok: true}
			}
			if got := asRect(Rect(e, r)); got != want {
				t.Errorf("Rect(%v, %v) = %v, want %v", e, r, got, want)
			}
			if got := asClips(Clips(e, r)); got != (clipsResult{clips: !all}) {
				t.Errorf("Clips(%v, %v) = %v, want %v", e, r, got, !all)
			}
		}
	}
}

// P6.3
func TestRectAndClipsOfWhatIsWrong(t *testing.T) {
	wrong := func(e api.Edit, r api.Rect) {
		if got := asRect(Rect(e, r)); got != (rectResult{e: api.ErrArg}) {
			t.Errorf("Rect(%v, %v) = %v, want ErrArg", e, r, got)
		}
		if got := asClips(Clips(e, r)); got != (clipsResult{e: api.ErrArg}) {
			t.Errorf("Clips(%v, %v) = %v, want ErrArg", e, r, got)
		}
	}
	for _, e := range wrongEdits() {
		for _, r := range []api.Rect{rect(1, 1, 1, 1), rect(2, 3, 5, 7), rect(1, 1, lastRow, lastCol), rect(5, 7, 2, 3)} {
			wrong(e, r)
		}
	}
	for _, e := range edgeEdits() {
		for _, r := range wrongRects() {
			wrong(e, r)
		}
	}
}
