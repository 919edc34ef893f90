package rewrite

import (
	"math"
	"slices"
	"testing"

	"foolscap/api"
	"foolscap/tree"
)

// wrongNodes are no formulas, by what tree.Check tells.
func wrongNodes() map[api.Errno][]api.Node {
	a := one(at(1, 1))
	not := []api.Node{
		{}, {Kind: 7}, {Kind: -1, Cell: at(1, 1)}, {Kind: api.NCell}, one(at(0, 1)), one(at(1, 0)), one(at(lastRow+1, 1)), one(at(1, lastCol+1)), one(at(math.MaxInt, 1)), one(at(1, math.MinInt)),
		reach(at(1, 1), at(0, 0)), reach(at(0, 0), at(1, 1)), reach(at(1, 1), at(lastRow+1, 1)), {Kind: api.NCell, Cell: at(1, 1), To: at(1, 1)}, {Kind: api.NCell, Cell: at(1, 1), Kids: []api.Node{a}}, {Kind: api.NRange, Cell: at(1, 1), To: at(1, 1), S: "x"},
		{Kind: api.NNeg}, {Kind: api.NNeg, Kids: []api.Node{a, a}}, {Kind: api.NBin, S: "+", Kids: []api.Node{a}}, bin("^", a, a), bin("", a, a), call(""), call("sum", a), call("1A"), call("ABCDEFGHIJKLMNOPQRSTU", a),
		number(-1), fault(0), fault(8), {Kind: api.NValue}, {Kind: api.NValue, Value: api.Value{Kind: api.Num, N: 1}, Cell: at(1, 1)},
		neg(api.Node{}), call("SUM", a, one(at(0, 0))), bin("+", a, call("F", a, reach(at(1, 1), at(1, 0)))),
	}
	deep := []api.Node{itself()}
	for _, above := range holders() {
		for _, depth := range []int{41, 42, 100, 160, 161, 400} {
			deep = append(deep, chain(depth, a, above))
		}
	}
	twice := func(k api.Node) api.Node { return bin("+", k, k) }
	big := []api.Node{call("SUM", slices.Repeat([]api.Node{a}, 4096)...), call("F", a, call("SUM", slices.Repeat([]api.Node{reach(at(1, 1), at(2, 2))}, 5000)...)), chain(13, a, twice), chain(40, a, twice), chain(160, a, twice)}
	return map[api.Errno][]api.Node{api.ErrArg: not, api.ErrDeep: append(deep, chain(161, a, twice)), api.ErrBig: big}
}

// itself is a - of itself.
func itself() api.Node {
	n := neg(number(1))
	n.Kids[0] = n
	return n
}

func wrongEdits() []api.Edit {
	out := []api.Edit{{}, edit(0, 1, 1), edit(5, 1, 1), edit(-1, 1, 1), edit(math.MaxInt, 1, 1), edit(math.MinInt, 1, 1)}
	for _, kind := range kinds() {
		edge := edgeOf(kind)
		out = append(out, edit(kind, 0, 1), edit(kind, -1, 1), edit(kind, edge+1, 1), edit(kind, 1, 0), edit(kind, 1, -1), edit(kind, 1, edge+1), edit(kind, 2, edge), edit(kind, edge, 2), edit(kind, math.MaxInt, 1), edit(kind, math.MinInt, 1), edit(kind, 1, math.MaxInt), edit(kind, 1, math.MinInt), edit(kind, math.MaxInt, math.MaxInt))
	}
	return out
}

// wrongSteps are one beyond a bound, and further, with the other one right or wrong.
func wrongSteps() [][2]int {
	var out [][2]int
	for _, rows := range []int{lastRow + 1, -lastRow - 1, lastRow + 2, 1 << 31, 1 << 32, math.MaxInt, math.MinInt, math.MinInt + 1} {
		out = append(out, [2]int{rows, 0}, [2]int{rows, lastCol}, [2]int{rows, -lastCol}, [2]int{rows, rows}, [2]int{rows, math.MinInt})
	}
	for _, cols := range []int{lastCol + 1, -lastCol - 1, lastCol + 2, lastRow, -lastRow, 1 << 31, 1 << 32, math.MaxInt, math.MinInt, math.MinInt + 1} {
		out = append(out, [2]int{0, cols}, [2]int{lastRow, cols}, [2]int{-lastRow, cols}, [2]int{math.MaxInt, cols})
	}
	return out
}

func refusesMove(t *testing.T, n api.Node, e api.Edit, want api.Errno) {
	t.Helper()
	if got, no := Move(n, e); no != want || !alike(got, api.Node{}) {
		t.Errorf("Move(.., %v) = %v, %d, want %d", e, got, no, want)
	}
	if got, no := Touches(n, e); no != want || got {
		t.Errorf("Touches(.., %v) = %v, %d, want %d", e, got, no, want)
	}
}

func refusesShift(t *testing.T, n api.Node, rows, cols int, want api.Errno) {
	t.Helper()
	if got, no := Shift(n, rows, cols); no != want || !alike(got, api.Node{}) {
		t.Errorf("Shift(.., %d, %d) = %v, %d, want %d", rows, cols, got, no, want)
	}
}

// P10.1, P10.2, P10.3: what is no formula is told as tree.Check tells it, also beside a wrong edit or a wrong step.
func TestNoFormulas(t *testing.T) {
	for want, all := range wrongNodes() {
		for _, n := range all {
			if got := tree.Check(n); got != want {
				t.Fatalf("tree.Check = %d, want %d", got, want)
			}
			for _, kind := range kinds() {
				refusesMove(t, n, edit(kind, 1, 1), want)
			}
			refusesMove(t, n, api.Edit{}, want)
			refusesMove(t, n, edit(1, math.MaxInt, math.MinInt), want)
			for _, c := range [][2]int{{0, 0}, {1, -1}, {lastRow, lastCol}, {lastRow + 1, 0}, {0, -lastCol - 1}, {math.MinInt, math.MaxInt}} {
				refusesShift(t, n, c[0], c[1], want)
			}
		}
	}
}

// P10.1, P10.3: an edit that is not right, whatever the formula, be there a cell in it or not.
func TestWrongEdits(t *testing.T) {
	for _, e := range wrongEdits() {
		for _, s := range []string{"A1", "A1:B2", "1", "SUM()", "#REF!", "SUM(A1,-B2:C3)", "XFD1048576", "$A$1"} {
			refusesMove(t, of(t, s), e, api.ErrArg)
		}
	}
}

// P10.2: steps beyond a bound, whatever the formula; at the bounds they are right.
func TestWrongSteps(t *testing.T) {
	for _, s := range []string{"A1", "A1:B2", "1", "SUM()", "#REF!", "SUM(A1,-B2:C3)", "XFD1048576", "$A$1", "$A$1:$B$2"} {
		for _, c := range wrongSteps() {
			refusesShift(t, of(t, s), c[0], c[1], api.ErrArg)
		}
		for _, rows := range []int{-lastRow, 1 - lastRow, 0, lastRow - 1, lastRow} {
			for _, cols := range []int{-lastCol, 1 - lastCol, 0, lastCol - 1, lastCol} {
				shiftsAsTold(t, s, rows, cols)
			}
		}
	}
}

// Rules: what is handed in stays as it was, also behind its lists' ends; of nodes that share their kids each is made anew; an empty list of kids is as good as none.
func TestMemory(t *testing.T) {
	room := make([]api.Node, 2, 4)
	room[0], room[1] = one(at(2, 2)), reach(at(1, 1), at(3, 3))
	full := room[:4]
	full[2], full[3] = text("behind"), one(at(9, 9))
	inner := api.Node{Kind: api.NCall, S: "SUM", Kids: room}
	n := bin("+", inner, inner)
	n.Kids[0].Kids[1].Kids = []api.Node{}
	ahead := copied(n)
	answers := []func() (api.Node, api.Errno){
		func() (api.Node, api.Errno) { return Move(n, edit(1, 1, 1)) },
		func() (api.Node, api.Errno) { return Move(n, edit(4, 9, 1)) },
		func() (api.Node, api.Errno) { return Shift(n, 1, 1) },
		func() (api.Node, api.Errno) { return Shift(n, 0, 0) },
	}
	for _, answer := range answers {
		got, no := answer()
		if no != api.OK {
			t.Fatalf("refused: %d", no)
		}
		sound(t, "shared kids", ahead, n, got)
		kept := copied(got)
		for i := range got.Kids {
			for j := range got.Kids[i].Kids {
				got.Kids[i].Kids[j] = number(8)
			}
			got.Kids[i].Kids = append(got.Kids[i].Kids, number(9))
		}
		if again, _ := answer(); !alike(again, kept) || !alike(ahead, n) {
			t.Errorf("an answer that was written over shows in another one, or in what was handed in")
		}
		if full[2].Value.S != "behind" || full[3].Cell != at(9, 9) {
			t.Errorf("behind the list's end there is %v", full[2:])
		}
	}
	got, _ := Move(n, edit(1, 1, 1))
	kept := copied(got)
	room[0], room[1] = number(1), number(2)
	if !alike(got, kept) {
		t.Errorf("an answer changes with what was handed in")
	}
	for _, n := range []api.Node{{Kind: api.NCell, Cell: at(3, 3), Kids: []api.Node{}}, {Kind: api.NCall, S: "F", Kids: []api.Node{}}, {Kind: api.NValue, Value: api.Value{Kind: api.Bool}, Kids: make([]api.Node, 0, 3)}} {
		if yes, no := Touches(n, edit(1, 4, 1)); yes || no != api.OK {
			t.Errorf("Touches of %v = %v, %d", n, yes, no)
		}
	}
}
