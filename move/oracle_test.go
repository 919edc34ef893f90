package move

import (
	"math"
	"math/rand"
	"slices"
	"sort"

	"foolscap/api"
)

// The tests hold the package against a second telling of the chapter's words, which shares no code with it: the rows (columns) of a sheet are a list, out of which some are taken, or into which some are put.

const (
	lastRow = 1048576
	lastCol = 16384
)

type editResult struct {
	edit api.Edit
	e    api.Errno
}

type spotResult struct {
	at   api.At
	fate api.Fate
	e    api.Errno
}

type rectResult struct {
	r  api.Rect
	ok bool
	e  api.Errno
}

type clipsResult struct {
	clips bool
	e     api.Errno
}

func asEdit(b api.Edit, e api.Errno) editResult           { return editResult{b, e} }
func asSpot(a api.At, f api.Fate, e api.Errno) spotResult { return spotResult{a, f, e} }
func asRect(r api.Rect, ok bool, e api.Errno) rectResult  { return rectResult{r, ok, e} }
func asClips(clips bool, e api.Errno) clipsResult         { return clipsResult{clips, e} }
func at(row, col int) api.At                              { return api.At{Row: row, Col: col} }
func edit(kind api.EditKind, where, many int) api.Edit {
	return api.Edit{Kind: kind, At: where, N: many}
}
func rect(top, left, bottom, right int) api.Rect {
	return api.Rect{Top: top, Left: left, Bottom: bottom, Right: right}
}

func kinds() []api.EditKind { return []api.EditKind{1, 2, 3, 4} }

func ofRows(e api.Edit) bool  { return e.Kind == 1 || e.Kind == 2 }
func putting(e api.Edit) bool { return e.Kind == 1 || e.Kind == 3 }
func edgeOf(kind api.EditKind) int {
	return []int{0, lastRow, lastRow, lastCol, lastCol}[kind]
}

// turned is a place whose line along the edit, and across it, are these.
func turned(e api.Edit, line, across int) api.At {
	if ofRows(e) {
		return at(line, across)
	}
	return at(across, line)
}

// turnedRect is a rectangle by its lines along the edit, and across it.
func turnedRect(e api.Edit, first, last, acrossFirst, acrossLast int) api.Rect {
	if ofRows(e) {
		return rect(first, acrossFirst, last, acrossLast)
	}
	return rect(acrossFirst, first, acrossLast, last)
}

// model is what a list of all lines of the sheet says of one edit, which is right.
type model struct {
	e    api.Edit
	to   []int // by line: where it is behind the edit, 0 if nowhere
	many []int // by line: how many of those up to it are somewhere
}

func modelOf(e api.Edit) model {
	edge := edgeOf(e.Kind)
	list := make([]int, edge)
	for i := range list {
		list[i] = i + 1
	}
	if putting(e) {
		list = slices.Insert(list, e.At-1, make([]int, e.N)...)[:edge]
	} else {
		list = slices.Delete(list, e.At-1, e.At-1+e.N)
	}
	m := model{e: e, to: make([]int, edge+1), many: make([]int, edge+1)}
	for i, line := range list {
		if line > 0 {
			m.to[line] = i + 1
		}
	}
	for line := 1; line <= edge; line++ {
		m.many[line] = m.many[line-1]
		if m.to[line] > 0 {
			m.many[line]++
		}
	}
	return m
}

func (m model) spot(line, across int) spotResult {
	switch to := m.to[line]; {
	case to > 0:
		return spotResult{at: turned(m.e, to, across)}
	case putting(m.e):
		return spotResult{fate: 2}
	}
	return spotResult{fate: 1}
}

func (m model) rect(first, last, acrossFirst, acrossLast int) rectResult {
	if m.many[last] == m.many[first-1] {
		return rectResult{}
	}
	firstLeft := sort.SearchInts(m.many, m.many[first-1]+1)
	lastLeft := sort.SearchInts(m.many, m.many[last])
	return rectResult{r: turnedRect(m.e, m.to[firstLeft], m.to[lastLeft], acrossFirst, acrossLast), ok: true}
}

func (m model) clips(first, last int) clipsResult {
	return clipsResult{clips: m.many[last]-m.many[first-1] < last-first+1}
}

// edges are the lines at which something turns, those beside them, and some others, in order.
func (m model) edges() []int {
	e, edge := m.e, edgeOf(m.e.Kind)
	var out []int
	for _, line := range []int{1, 4, e.At, e.At + e.N/2, e.At + e.N, edge - e.N, edge - e.N - 7, edge / 2, edge} {
		for _, beside := range []int{line - 1, line, line + 1} {
			out = append(out, max(1, min(beside, edge)))
		}
	}
	slices.Sort(out)
	return slices.Compact(out)
}

// acrossOf are lines across an edit, at both edges and within.
func (m model) acrossOf() []int {
	if ofRows(m.e) {
		return []int{1, 9, lastCol - 1, lastCol}
	}
	return []int{1, 9, lastCol + 1, lastRow - 1, lastRow}
}

// edgeEdits are of all kinds, at the first and the last line and within, with one line, with all there are from At on, and in between.
func edgeEdits() []api.Edit {
	var out []api.Edit
	for _, kind := range kinds() {
		edge := edgeOf(kind)
		for _, where := range []int{1, 2, 3, 10, edge/2 + 1, edge - 5, edge - 1, edge} {
			there := edge - where + 1
			for _, many := range []int{1, 2, 5, there / 3, there / 2, there - 1, there} {
				if many >= 1 && many <= there && !slices.Contains(out, edit(kind, where, many)) {
					out = append(out, edit(kind, where, many))
				}
			}
		}
	}
	return out
}

// scatteredEdits are right ones of a kind at random, great and small, near to both edges and far off.
func scatteredEdits(seed int64, kind api.EditKind, many int) []api.Edit {
	r := rand.New(rand.NewSource(seed))
	var out []api.Edit
	for range many {
		edge := edgeOf(kind)
		where := []int{1 + r.Intn(20), 1 + r.Intn(edge), edge - r.Intn(20)}[r.Intn(3)]
		there := edge - where + 1
		out = append(out, edit(kind, where, 1+r.Intn(min(there, []int{3, 30, edge}[r.Intn(3)]))))
	}
	return out
}

// wrongEdits are not right by one of their parts, or by several.
func wrongEdits() []api.Edit {
	out := []api.Edit{{}, edit(0, 1, 1), edit(0, 0, 0), edit(5, 0, 0), edit(1, math.MaxInt, math.MaxInt), edit(1, math.MinInt, math.MinInt), edit(2, math.MinInt, math.MaxInt), edit(3, math.MaxInt, math.MinInt), edit(4, math.MinInt, 1)}
	for _, kind := range []api.EditKind{0, 5, 6, -1, -2, -3, -4, 1<<32 + 1, -1<<32 + 1, math.MaxInt, math.MinInt, math.MinInt + 1} {
		out = append(out, edit(kind, 1, 1), edit(kind, 3, 2), edit(kind, lastCol, 1), edit(kind, lastRow, 1), edit(kind, 0, 1), edit(kind, 1, 0))
	}
	for _, kind := range kinds() {
		edge := edgeOf(kind)
		for _, where := range []int{0, -1, -2, -edge, edge + 1, edge + 2, 2 * edge, 1<<32 + 1, -1<<32 + 1, math.MaxInt - 1, math.MaxInt, math.MinInt, math.MinInt + 1} {
			for _, many := range []int{1, 2, edge, 0, -1, -2, math.MaxInt, math.MinInt} {
				out = append(out, edit(kind, where, many))
			}
		}
		for _, where := range []int{1, 2, 3, 10, edge/2 + 1, edge - 1, edge} {
			there := edge - where + 1
			for _, many := range []int{0, -1, -2, -there, there + 1, there + 2, 2 * edge, 1<<32 + 1, -1<<32 + 1, math.MaxInt - 1, math.MaxInt, math.MinInt, math.MinInt + 1} {
				out = append(out, edit(kind, where, many))
			}
		}
	}
	return out
}

func wrongLines(edge int) []int {
	return []int{0, -1, -2, -edge, edge + 1, edge + 2, 1<<32 + 1, -1<<32 + 1, math.MaxInt - 1, math.MaxInt, math.MinInt, math.MinInt + 1}
}

// wrongPlaces are none by their row, by their column, or by both.
func wrongPlaces() []api.At {
	out := []api.At{{}}
	for _, row := range wrongLines(lastRow) {
		out = append(out, at(row, 1), at(row, 3), at(row, lastCol))
		for _, col := range wrongLines(lastCol) {
			out = append(out, at(row, col))
		}
	}
	for _, col := range wrongLines(lastCol) {
		out = append(out, at(1, col), at(3, col), at(lastRow, col))
	}
	return out
}

// wrongRects are not right by one side, whichever it is, or by their corners' order.
func wrongRects() []api.Rect {
	out := []api.Rect{{}, rect(2, 1, 1, 1), rect(1, 2, 1, 1), rect(2, 2, 1, 1), rect(5, 3, 2, 7), rect(2, 7, 5, 3), rect(5, 7, 2, 3), rect(lastRow, 1, 1, lastCol), rect(1, lastCol, lastRow, 1), rect(lastRow, lastCol, lastRow-1, lastCol), rect(lastRow, lastCol, lastRow, lastCol-1), rect(math.MinInt, math.MinInt, math.MaxInt, math.MaxInt), rect(math.MaxInt, math.MaxInt, math.MinInt, math.MinInt), rect(0, 0, lastRow, lastCol), rect(1, 1, lastRow+1, lastCol+1)}
	for _, r := range []api.Rect{rect(1, 1, 1, 1), rect(2, 3, 5, 7), rect(1, 1, lastRow, lastCol), rect(lastRow, lastCol, lastRow, lastCol)} {
		for _, row := range wrongLines(lastRow) {
			out = append(out, rect(row, r.Left, r.Bottom, r.Right), rect(r.Top, r.Left, row, r.Right), rect(row, r.Left, row, r.Right))
		}
		for _, col := range wrongLines(lastCol) {
			out = append(out, rect(r.Top, col, r.Bottom, r.Right), rect(r.Top, r.Left, r.Bottom, col), rect(r.Top, col, r.Bottom, col))
		}
	}
	return slices.DeleteFunc(out, rightRect)
}

func rightPlace(a api.At) bool {
	return a.Row > 0 && a.Row < lastRow+1 && a.Col > 0 && a.Col < lastCol+1
}

func rightRect(r api.Rect) bool {
	return rightPlace(at(r.Top, r.Left)) && rightPlace(at(r.Bottom, r.Right)) && !(r.Top > r.Bottom) && !(r.Left > r.Right)
}

func inside(r api.Rect, a api.At) bool {
	return rightRect(r) && !(a.Row < r.Top || a.Row > r.Bottom || a.Col < r.Left || a.Col > r.Right)
}
