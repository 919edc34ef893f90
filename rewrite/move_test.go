package rewrite

import (
	"math/rand"
	"slices"
	"testing"

	"foolscap/api"
)

// P10.1, P10.3: the chapter's examples, and some by hand.
func TestMoveExamples(t *testing.T) {
	for _, c := range []struct {
		e       api.Edit
		s, want string
	}{
		{edit(1, 3, 1), "A3+SUM(B2:B5)", "A4+SUM(B2:B6)"},
		{edit(2, 3, 1), "A3+SUM(B2:B5)", "#REF!+SUM(B2:B4)"},
		{edit(1, 3, 2), "B5:A2", "B7:A2"},
		{edit(3, 3, 1), "C1+SUM(B2:E2)", "D1+SUM(B2:F2)"},
		{edit(4, 3, 1), "C1+SUM(B2:E2)", "#REF!+SUM(B2:D2)"},
		{edit(3, 2, 2), "E1:A2", "G1:A2"},
		{edit(1, 1, 1), "$A$1+A$1+$A1+A1", "$A$2+A$2+$A2+A2"},
		{edit(2, 2, 1), "$A$3&$A$2&$A$1", "$A$2&#REF!&$A$1"},
		{edit(2, 3, 2), "A2:A4", "A2:A2"},
		{edit(2, 3, 2), "A3:A4", "#REF!"},
		{edit(2, 3, 2), "A4:A3", "#REF!"},
		{edit(2, 3, 2), "A6:A2", "A4:A2"},
		{edit(2, 1, lastRow), "A1+SUM(B2:B5,C7)-1", "#REF!+SUM(#REF!,#REF!)-1"},
		{edit(4, 1, lastCol), "-A1&A1:XFD1048576", "-#REF!&#REF!"},
		{edit(1, 9, 1), `"A9"&a9`, `"A9"&A10`},
		{edit(1, 9, 1), "A9(A9)", "A9(A10)"},
		{edit(1, 9, 1), "#REF!+A9", "#REF!+A10"},
		{edit(1, 1, 1), "(1-2)-(3-A1)", "1-2-(3-A2)"},
	} {
		moves(t, c.s, c.e, c.want)
	}
}

// P10.1, P10.3: the four kinds of edits ahead of, at and behind a cell, with each $.
func TestMoveCell(t *testing.T) {
	for _, kind := range kinds() {
		for _, many := range []int{1, 2, 5} {
			for where := 1; where <= 14; where++ {
				for _, c := range marks(turned(kind, 9, 7)) {
					s := textOf(t, one(c))
					movesAsTold(t, s, edit(kind, where, many))
					// By hand, too: what the second telling says of one line.
					want := c
					switch {
					case where > 9:
					case kind == api.InsRows:
						want.At.Row += many
					case kind == api.InsCols:
						want.At.Col += many
					case where+many > 9:
						moves(t, s, edit(kind, where, many), "#REF!")
						continue
					case kind == api.DelRows:
						want.At.Row -= many
					case kind == api.DelCols:
						want.At.Col -= many
					}
					moves(t, s, edit(kind, where, many), textOf(t, one(want)))
				}
			}
		}
	}
}

// P10.1, P10.3: the four kinds of edits ahead of, within, at both ends of and behind a range, whose ends are either pair of corners, either way; and ranges of one row, of one column, and of one cell.
func TestMoveRange(t *testing.T) {
	for _, box := range [][4]int{{5, 5, 9, 9}, {5, 6, 8, 9}, {6, 6, 7, 7}, {7, 5, 7, 9}, {5, 7, 9, 7}, {7, 7, 7, 7}} {
		for _, n := range corners(box[0], box[1], box[2], box[3]) {
			s := textOf(t, n)
			for _, kind := range kinds() {
				for where := 1; where <= 12; where++ {
					for many := 1; many <= 12; many++ {
						movesAsTold(t, s, edit(kind, where, many))
					}
				}
			}
		}
	}
}

// P10.1: each end with and without each $, with rows and columns in either order.
func TestMoveMarks(t *testing.T) {
	asked := 0
	for _, n := range corners(5, 5, 9, 9) {
		for _, from := range marks(n.Cell) {
			for _, to := range marks(n.To) {
				for _, kind := range kinds() {
					for _, e := range []api.Edit{edit(kind, 2, 2), edit(kind, 5, 1), edit(kind, 6, 2), edit(kind, 9, 1), edit(kind, 10, 3), edit(kind, 1, 12)} {
						movesAsTold(t, textOf(t, reach(from, to)), e)
						asked++
					}
				}
			}
		}
	}
	if asked != 4*16*4*6 {
		t.Errorf("%d were asked", asked)
	}
	// The $ go with the ends, not with the corners.
	moves(t, "$B5:A$2", edit(1, 3, 2), "$B7:A$2")
	moves(t, "B$5:$A2", edit(1, 3, 2), "B$7:$A2")
	moves(t, "$B$5:A2", edit(2, 1, 3), "$B$2:A1")
	moves(t, "B5:$A$2", edit(3, 2, 1), "C5:$A$2")
	moves(t, "$A5:B$2", edit(4, 1, 1), "$A5:A$2")
}

// P10.1: a range of which the first rows (columns), the last ones, those between, or all are deleted.
func TestMoveDeletedParts(t *testing.T) {
	for _, c := range []struct {
		e       api.Edit
		s, want string
	}{
		{edit(2, 4, 2), "B5:D9", "B4:D7"}, {edit(2, 5, 2), "B5:D9", "B5:D7"}, {edit(2, 1, 5), "B5:D9", "B1:D4"},
		{edit(2, 8, 2), "B5:D9", "B5:D7"}, {edit(2, 9, 3), "B5:D9", "B5:D8"}, {edit(2, 6, 3), "B5:D9", "B5:D6"}, {edit(2, 6, 9), "B5:D9", "B5:D5"}, {edit(2, 2, 7), "B5:D9", "B2:D2"},
		{edit(2, 5, 5), "B5:D9", "#REF!"}, {edit(2, 4, 6), "B5:D9", "#REF!"}, {edit(2, 5, 6), "B5:D9", "#REF!"}, {edit(2, 1, lastRow), "B5:D9", "#REF!"}, {edit(2, 5, 4), "B5:D9", "B5:D5"}, {edit(2, 6, 4), "B5:D9", "B5:D5"},
		{edit(2, 4, 2), "D9:B5", "D7:B4"}, {edit(2, 8, 2), "D5:B9", "D5:B7"}, {edit(2, 6, 3), "B9:D5", "B6:D5"}, {edit(2, 5, 5), "B9:D5", "#REF!"},
		{edit(4, 1, 2), "B5:D9", "A5:B9"}, {edit(4, 2, 1), "B5:D9", "B5:C9"}, {edit(4, 4, 2), "B5:D9", "B5:C9"}, {edit(4, 3, 1), "B5:D9", "B5:C9"}, {edit(4, 2, 3), "B5:D9", "#REF!"}, {edit(4, 1, 4), "B5:D9", "#REF!"}, {edit(4, 3, 1), "D5:B9", "C5:B9"}, {edit(4, 1, 3), "D9:B5", "A9:A5"},
		{edit(2, 1, lastRow-1), "A1:A1048576", "A1:A1"}, {edit(2, 2, lastRow-1), "A1048576:A1", "A1:A1"}, {edit(2, 2, lastRow-2), "$A1048576:A$1", "$A2:A$1"}, {edit(4, 1, lastCol-1), "A1:XFD1", "A1:A1"}, {edit(4, 2, lastCol-2), "XFD1:A$1", "B1:A$1"},
	} {
		moves(t, c.s, c.e, c.want)
		movesAsTold(t, c.s, c.e)
	}
}

// P10.1, P10.3: what an insertion pushes over the edge, of a cell and of a range, in part and whole.
func TestMoveOverTheEdge(t *testing.T) {
	for _, c := range []struct {
		e       api.Edit
		s, want string
	}{
		{edit(1, 1, 1), "A1048576", "#REF!"}, {edit(1, 1, 1), "A1048575", "A1048576"}, {edit(1, lastRow, 1), "A1048576", "#REF!"}, {edit(1, lastRow, 1), "A1048575", "A1048575"}, {edit(1, 2, 5), "$A$1048571+$A$1048572", "$A$1048576+#REF!"}, {edit(1, 1, lastRow), "A1", "#REF!"}, {edit(1, 1, lastRow-1), "A1+A2", "A1048576+#REF!"},
		{edit(3, 1, 1), "XFD1", "#REF!"}, {edit(3, 1, 1), "XFC1", "XFD1"}, {edit(3, lastCol, 1), "XFD7", "#REF!"}, {edit(3, lastCol, 1), "XFC7", "XFC7"}, {edit(3, 1, lastCol), "A1", "#REF!"}, {edit(3, 1, lastCol-1), "A1+B1", "XFD1+#REF!"},
		{edit(1, 1, 1), "A1:A1048576", "A2:A1048576"}, {edit(1, 1048570, 3), "A1048569:A1048576", "A1048569:A1048576"}, {edit(1, 1048570, 7), "A1048569:A1048576", "A1048569:A1048569"}, {edit(1, 1048570, 7), "A1048570:A1048576", "#REF!"}, {edit(1, 1, 1), "B1048576:A1048576", "#REF!"}, {edit(1, 1, 1), "B1048576:A1048575", "B1048576:A1048576"}, {edit(1, 1, 1), "B1048575:A1048575", "B1048576:A1048576"}, {edit(1, 1, 2), "A1048575:A1048576", "#REF!"}, {edit(1, 1, lastRow), "A1:XFD1048576", "#REF!"},
		{edit(3, 1, 1), "A1:XFD1", "B1:XFD1"}, {edit(3, 5, 9), "XFD$9:$A1", "XFD$9:$A1"}, {edit(3, 1, 1), "XFD1:XFD9", "#REF!"}, {edit(3, 1, 1), "XFD1:XFC9", "XFD1:XFD9"}, {edit(3, 16380, 5), "XEZ1:XFD9", "#REF!"}, {edit(3, 16380, 5), "XEY1:XFD9", "XEY1:XEY9"}, {edit(3, 1, lastCol), "A1:XFD1048576", "#REF!"},
	} {
		moves(t, c.s, c.e, c.want)
		movesAsTold(t, c.s, c.e)
	}
}

// P10.3: a range of which rows go off, but which is the same one again, is not touched.
func TestTouchesWhatComesBackTheSame(t *testing.T) {
	for s, e := range map[string]api.Edit{"A1:A1048576": edit(1, 2, 1), "SUM(XFD1:$A7)": edit(3, 2, 100), "B1048576:A9": edit(1, 10, 5), "A2:A9+A1": edit(1, 10, 1), "#REF!": edit(2, 1, lastRow), "SUM()": edit(4, 1, 1), "A3:B3": edit(4, 3, 9)} {
		moves(t, s, e, s)
	}
	for s, e := range map[string]api.Edit{"A1:A1048576": edit(1, 1, 1), "A1:XFD1": edit(4, 16384, 1), "SUM(1,2,F(-(3+A9)))": edit(1, 9, 1), "A1:A9": edit(2, 9, 1), "A9": edit(2, 9, 1)} {
		if got, no := Touches(of(t, s), e); !got || no != api.OK {
			t.Errorf("Touches(%s, %v) = %v, %d", s, e, got, no)
		}
	}
}

// P10.1, P10.2, P10.3: a formula in which there is no cell stays as it is.
func TestNoCell(t *testing.T) {
	all := append(values(), neg(number(1)), bin("+", number(1), text("A1")), call("F"), call("A1"), call("SUM", call("F"), neg(text("A1:B2"))), bin("&", fault(api.Ref), fault(api.NA)))
	for _, n := range all {
		s := textOf(t, n)
		for _, kind := range kinds() {
			for _, e := range []api.Edit{edit(kind, 1, 1), edit(kind, 1, edgeOf(kind)), edit(kind, edgeOf(kind), 1), edit(kind, 3, 2)} {
				moves(t, s, e, s)
			}
		}
		for _, c := range [][2]int{{0, 0}, {1, 1}, {-1, -1}, {lastRow, lastCol}, {-lastRow, -lastCol}} {
			shifts(t, s, c[0], c[1], s)
		}
	}
}

// P10.1, P10.2, P10.3, P10.7: cells and ranges as deep as they may be, and beside others.
func TestDeepCells(t *testing.T) {
	for how, above := range holders() {
		for _, depth := range []int{2, 3, 20, 38, 40} {
			for _, lowest := range []api.Node{one(at(5, 5)), reach(at(9, 2), at(2, 9)), fault(api.Ref), number(7)} {
				n := chain(depth, lowest, above)
				s := textOf(t, n)
				for _, kind := range kinds() {
					for _, e := range []api.Edit{edit(kind, 1, 1), edit(kind, 5, 1), edit(kind, 5, 3), edit(kind, 10, 1), edit(kind, 1, edgeOf(kind))} {
						movesAsTold(t, s, e)
					}
				}
				shiftsAsTold(t, s, 3, 1)
				shiftsAsTold(t, s, -4, 0)
				shiftsAsTold(t, s, 0, -5)
			}
		}
		if _, no := Move(chain(41, one(at(1, 1)), above), edit(1, 1, 1)); no != api.ErrDeep {
			t.Errorf("Move of 41 levels of %s: %d", how, no)
		}
	}
}

// P10.1, P10.2, P10.3, P10.7: a formula of as many nodes as there may be, each of them told by itself.
func TestManyCells(t *testing.T) {
	var kids, moved, shifted []api.Node
	for i := range 4095 {
		c := fixed(at(1+i, 1+i%7), i%2 == 0, i%3 == 0)
		there := c
		if i >= 4000 {
			there.At.Row += 9
		}
		kids, moved = append(kids, one(c)), append(moved, one(there))
		further := c
		if i%2 == 1 {
			further.At.Row += 5
		}
		shifted = append(shifted, one(further))
	}
	n := call("SUM", kids...)
	ahead := copied(n)
	e := edit(1, 4001, 9)
	got, no := Move(n, e)
	if no != api.OK || !alike(got, call("SUM", moved...)) {
		t.Errorf("Move of very many cells: %d", no)
	}
	sound(t, "Move of very many cells", ahead, n, got)
	if yes, no := Touches(n, e); !yes || no != api.OK {
		t.Errorf("Touches of very many cells = %v, %d", yes, no)
	}
	// The last kid alone is touched, or none.
	for where, want := range map[int]bool{4095: true, 4096: false} {
		if yes, no := Touches(n, edit(1, where, 1)); yes != want || no != api.OK {
			t.Errorf("Touches at %d = %v, %d", where, yes, no)
		}
	}
	got, no = Shift(n, 5, 0)
	if no != api.OK || !alike(got, call("SUM", shifted...)) {
		t.Errorf("Shift of very many cells: %d", no)
	}
	sound(t, "Shift of very many cells", ahead, n, got)
}

// P10.1, P10.3: formulas and edits by chance.
func TestMoveAny(t *testing.T) {
	r := rand.New(rand.NewSource(1))
	touched, lost := map[bool]int{}, 0
	for range 30000 {
		e := anyEdit(r)
		row, col := e.At, 1+r.Intn(9)
		if !ofRows(e) {
			row, col = 1+r.Intn(9), e.At
		}
		n := anyFormula(r, 1+r.Intn(5), func() api.Cell { return anyCell(r, row, col) })
		s := textOf(t, n)
		if len(s) > 900 {
			continue
		}
		want := wantMove(t, s, e)
		moves(t, s, e, want)
		touched[want != s]++
		if slices.ContainsFunc(listed(of(t, want)), func(n api.Node) bool { return n.Value == api.Value{Kind: 4, Code: 3} }) {
			lost++
		}
	}
	if touched[true] < 3000 || touched[false] < 3000 || lost < 1000 {
		t.Errorf("touched: %v, lost: %d", touched, lost)
	}
}
