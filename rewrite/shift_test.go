package rewrite

import (
	"math/rand"
	"testing"

	"foolscap/api"
)

// P10.2: the chapter's examples, and some by hand.
func TestShiftExamples(t *testing.T) {
	for _, c := range []struct {
		rows, cols int
		s, want    string
	}{
		{1, 1, "A1+$A$1+A$1", "B2+$A$1+B$1"}, {-1, 0, "A1+$A$1+A$1", "#REF!+$A$1+A$1"},
		{1, 1, "$A1", "$A2"}, {0, -1, "A1+$A$1+$A1", "#REF!+$A$1+$A1"}, {0, 1, "A1&$A1", "B1&$A1"}, {1, 0, "A1&A$1", "A2&A$1"},
		{2, 0, "A$1:A2", "A$1:A4"}, {2, 3, "B2:$C$9", "E4:$C$9"}, {-1, -1, "$B$2:C3", "$B$2:B2"}, {10, 0, "A2:A$5", "A12:A$5"}, {0, -3, "D1:$B2", "A1:$B2"},
		{-1, 0, "A1:B2", "#REF!"}, {-1, 0, "B2:A1", "#REF!"}, {-1, 0, "A$1:B2", "A$1:B1"}, {0, -1, "B1:A2", "#REF!"}, {0, -1, "B1:$A2", "A1:$A2"},
		{5, 5, `"A1"&A1(A1,a1:b2)`, `"A1"&A1(F6,F6:G7)`}, {-1, -1, "SUM(A1,B2,-(C3*A1:B2))", "SUM(#REF!,A1,-(B2*#REF!))"}, {1, 0, "(1-2)-(3-A1)", "1-2-(3-A2)"},
	} {
		shifts(t, c.s, c.rows, c.cols, c.want)
		shiftsAsTold(t, c.s, c.rows, c.cols)
	}
}

// P10.2: to the first and the last row and column, and one step beyond.
func TestShiftToTheEdges(t *testing.T) {
	for _, c := range []struct {
		rows, cols int
		s, want    string
	}{
		{-8, 0, "C9", "C1"}, {-9, 0, "C9", "#REF!"}, {-10, 0, "C9", "#REF!"}, {0, -2, "C9", "A9"}, {0, -3, "C9", "#REF!"}, {-8, -2, "C9", "A1"}, {-8, -3, "C9", "#REF!"}, {-9, -2, "C9", "#REF!"},
		{lastRow - 9, 0, "C9", "C1048576"}, {lastRow - 8, 0, "C9", "#REF!"}, {0, lastCol - 3, "C9", "XFD9"}, {0, lastCol - 2, "C9", "#REF!"}, {lastRow - 9, lastCol - 3, "C9", "XFD1048576"}, {lastRow - 9, lastCol - 2, "C9", "#REF!"}, {lastRow - 8, lastCol - 3, "C9", "#REF!"},
		{lastRow - 1, 0, "A1", "A1048576"}, {lastRow, 0, "A1", "#REF!"}, {1 - lastRow, 0, "A1048576", "A1"}, {-lastRow, 0, "A1048576", "#REF!"}, {0, lastCol - 1, "A1", "XFD1"}, {0, lastCol, "A1", "#REF!"}, {0, 1 - lastCol, "XFD1", "A1"}, {0, -lastCol, "XFD1", "#REF!"},
		{lastRow, lastCol, "$A$1+A$1+$A1", "$A$1+#REF!+#REF!"}, {lastRow, 0, "$A$1+A$1+$A1", "$A$1+A$1+#REF!"}, {0, -lastCol, "$A$1+A$1+$A1", "$A$1+#REF!+$A1"}, {-lastRow, -lastCol, "$XFD$1048576:$A$1", "$XFD$1048576:$A$1"},
		{1, 0, "XFD1048576", "#REF!"}, {0, 1, "XFD1048576", "#REF!"}, {-1, 0, "XFD1048576", "XFD1048575"}, {0, -1, "XFD1048576", "XFC1048576"}, {1, 1, "$XFD$1048576", "$XFD$1048576"},
	} {
		shifts(t, c.s, c.rows, c.cols, c.want)
		shiftsAsTold(t, c.s, c.rows, c.cols)
	}
}

// P10.2: of a range the first end alone goes over an edge, the second one alone, both, or none; at each of the four edges.
func TestShiftOneEnd(t *testing.T) {
	over := map[string][2]int{"A1": {-1, 0}, "A7": {0, -1}, "XFD7": {0, 1}, "C1048576": {1, 0}, "$A1": {-1, -1}, "A$1": {-1, -1}, "XFD$1048576": {1, 1}}
	for s, step := range over {
		for _, stays := range []string{"D7", "D$7", "$D7", "$D$7"} {
			shifts(t, s+":"+stays, step[0], step[1], "#REF!")
			shifts(t, stays+":"+s, step[0], step[1], "#REF!")
			shifts(t, "F("+stays+","+stays+":"+s+")", 0, 0, "F("+stays+","+stays+":"+s+")")
			shiftsAsTold(t, stays+":"+stays, step[0], step[1])
		}
		shifts(t, s+":"+s, step[0], step[1], "#REF!")
	}
}

// P10.2: each end with and without each $, steps of each kind.
func TestShiftMarks(t *testing.T) {
	for _, n := range corners(2, 3, 4, 5) {
		for _, from := range marks(n.Cell) {
			for _, to := range marks(n.To) {
				for rows := -5; rows <= 3; rows++ {
					for cols := -5; cols <= 3; cols++ {
						shiftsAsTold(t, textOf(t, reach(from, to)), rows, cols)
						shiftsAsTold(t, textOf(t, one(from)), rows, cols)
					}
				}
			}
		}
	}
}

// P10.2: formulas and steps by chance.
func TestShiftAny(t *testing.T) {
	r := rand.New(rand.NewSource(2))
	step := func(most int) int {
		return []int{0, r.Intn(9) - 4, r.Intn(9) - 4, r.Intn(2*most+1) - most, most, -most}[r.Intn(6)]
	}
	for range 30000 {
		n := anyFormula(r, 1+r.Intn(5), func() api.Cell { return anyCell(r, 1+r.Intn(9), 1+r.Intn(9)) })
		if s := textOf(t, n); len(s) <= 900 {
			shiftsAsTold(t, s, step(lastRow), step(lastCol))
		}
	}
}
