package rewrite

import (
	"foolscap/api"
	"foolscap/move"
	"foolscap/place"
)

// moving is what an edit, which is right, does with references. A $ holds nothing there: it is what is referred to that moves.
func moving(e api.Edit) doing {
	cell := func(c api.Cell) (api.Cell, bool) {
		at, fate, _ := move.Spot(e, c.At)
		c.At = at
		return c, fate == api.Stays
	}
	span := func(from, to api.Cell) (api.Cell, api.Cell, bool) {
		r, _ := place.Of(from.At, to.At)
		left, ok, _ := move.Rect(e, r)
		from.At.Row, to.At.Row = ordered(from.At.Row, to.At.Row, left.Top, left.Bottom)
		from.At.Col, to.At.Col = ordered(from.At.Col, to.At.Col, left.Left, left.Right)
		return from, to, ok
	}
	return doing{cell: cell, span: span}
}

// ordered tells two lines, the less one where the less one of two others is.
func ordered(from, to, less, greater int) (int, int) {
	if from <= to {
		return less, greater
	}
	return greater, less
}

// shifting is what another place, so many rows and columns further, does with references.
func shifting(rows, cols int) doing {
	cell := func(c api.Cell) (api.Cell, bool) {
		if !c.FixRow {
			c.At.Row += rows
		}
		if !c.FixCol {
			c.At.Col += cols
		}
		// What is over an edge is no place.
		_, wrong := place.Of(c.At, c.At)
		return c, wrong == api.OK
	}
	span := func(from, to api.Cell) (api.Cell, api.Cell, bool) {
		first, ok := cell(from)
		last, also := cell(to)
		return first, last, ok && also
	}
	return doing{cell: cell, span: span}
}
