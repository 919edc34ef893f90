package forms

import (
	"math/rand"
	"slices"
	"testing"

	"foolscap/api"
)

// P9.2: the chapter's examples, and some by hand.
func TestCheckExamples(t *testing.T) {
	for s, want := range map[string]api.Errno{
		"SUM(A1,2)": api.OK, "SUM()": api.ErrArity, "FOO(1)": api.ErrNone, "VLOOKUP(1,2,3)": api.ErrArg,
		"1": api.OK, "A1": api.OK, "A1:B2": api.OK, "-A1:B2": api.OK, "A1:B2+1": api.OK, "#REF!": api.OK, `"x"&TRUE`: api.OK,
		"NA()": api.OK, "NA(1)": api.ErrArity, "ABS(A1:B2)": api.OK, "IF(A1:B2,A1:B2)": api.OK, "ROWS(A1)": api.OK, "ROWS(#REF!)": api.OK, "ROWS(#N/A)": api.ErrArg, "ROWS(-A1)": api.ErrArg, "ROWS((A1))": api.OK,
		"FOO()": api.ErrNone, "1+FOO(A1)": api.ErrNone, "TRUE()": api.ErrNone, "A1()": api.ErrNone, "sum(a1)": api.OK,
		"INDEX(INDEX(A1:B2,1),1)": api.ErrArg, "SUM(SUMIF(A1:B2,1,3))": api.ErrArg, "SUMIF(A1:B2,1,C1)": api.OK, "SUMPRODUCT(A1,B1:B2,1)": api.ErrArg,
	} {
		checks(t, of(t, s), want)
	}
}

// P9.2: each function with each number of kids, about those that it takes.
func TestCheckArity(t *testing.T) {
	for _, s := range names {
		f := known[s]
		for many := 0; many <= 33; many++ {
			if len(f.Wants) == 0 && many > 0 {
				checks(t, call(s, slices.Repeat([]api.Node{number(1)}, many)...), api.ErrArity)
				continue
			}
			want := api.OK
			if many < f.Least || many > f.Most {
				want = api.ErrArity
			}
			checks(t, call(s, fittingKids(f, many)...), want)
			// Too few and too many are told ahead of kids that are no ranges.
			checks(t, call(s, slices.Repeat([]api.Node{one(at(1, 1))}, many)...), want)
			if want != api.OK {
				checks(t, call(s, slices.Repeat([]api.Node{number(1)}, many)...), want)
			}
		}
		checks(t, call(s, slices.Repeat([]api.Node{one(at(1, 1))}, 4095)...), api.ErrArity)
	}
}

// P9.2: each argument of each function, with everything that may and may not stand there; the further ones are among them.
func TestCheckWants(t *testing.T) {
	asked := 0
	for _, s := range names {
		f := known[s]
		for many := f.Least; many <= f.Most; many++ {
			for i := range many {
				kids := fittingKids(f, many)
				for _, k := range ranges() {
					kids[i] = k
					checks(t, call(s, kids...), api.OK)
				}
				want := api.OK
				if wanted(f, i) == api.WantRange {
					want = api.ErrArg
					asked++
				}
				for _, k := range others() {
					kids[i] = k
					checks(t, call(s, kids...), want)
				}
			}
		}
	}
	// SUMPRODUCT asks for 1 + 2 + .. + 30; the other ones for 2, 2, 2, 1, 3, 3, 2, 2, 2, 2 and 1, 1, 1, 1.
	if asked != 465+2+2+1+3+3+2+2+2+2+4 {
		t.Errorf("%d arguments want a range", asked)
	}
}

// wrongCalls are calls that are wrong by themselves, by the error; all their kids pass.
func wrongCalls() map[api.Errno][]api.Node {
	a := one(at(1, 1))
	return map[api.Errno][]api.Node{
		api.ErrNone:  {call("FOO"), call("FOO", a, a), call("SU", number(1)), call("A1", a)},
		api.ErrArity: {call("SUM"), call("NA", a), call("ROWS"), call("VLOOKUP", number(1), number(2)), call("SUMIF", number(1), number(2), number(3), number(4))},
		api.ErrArg:   {call("ROWS", number(1)), call("SUMIF", a, a, number(1)), call("LARGE", call("SUM", a), number(1)), call("SUMPRODUCT", a, a, fault(api.NA))},
	}
}

// P9.2: a wrong call within others that pass, however deep.
func TestCheckWithin(t *testing.T) {
	for want, all := range wrongCalls() {
		for _, n := range all {
			checks(t, n, want)
			for _, above := range holders() {
				for _, depth := range []int{2, 3, 20, 37, 38} {
					checks(t, chain(depth, n, above), want)
					checks(t, chain(depth, call("NA"), above), api.OK)
				}
			}
		}
	}
}

// P9.2: of two wrong calls the outer is told, and of two beside each other the first.
func TestCheckFirst(t *testing.T) {
	for want, all := range wrongCalls() {
		for later, others := range wrongCalls() {
			for _, first := range all {
				for _, second := range others {
					checks(t, bin("+", first, second), want)
					checks(t, call("IF", number(1), neg(first), second), want)
					checks(t, call("SUM", first, second, call("FOO")), want)
					checks(t, call("SUM", neg(neg(neg(first))), second), want)
					checks(t, bin("*", call("SUM", one(at(1, 1)), first), second), want)
				}
			}
			for _, inner := range others {
				checks(t, outerCall(want, inner), want)
				checks(t, bin("&", outerCall(want, neg(inner)), inner), want)
				checks(t, call("IF", outerCall(want, inner), inner), want)
				// What is told of the inner one shows when nothing is wrong with the outer.
				checks(t, call("COUNTIF", one(at(1, 1)), inner), later)
			}
		}
	}
	checks(t, of(t, "ROWS(FOO())"), api.ErrArg)
	checks(t, of(t, "FOO(ROWS(1))"), api.ErrNone)
	checks(t, of(t, "SUM(ROWS(1),FOO())"), api.ErrArg)
	checks(t, of(t, "NA(ROWS(1))"), api.ErrArity)
	checks(t, of(t, "ABS(ABS(),FOO())"), api.ErrArity)
	checks(t, of(t, "SUM(ABS(NA(1)),FOO())"), api.ErrArity)
	checks(t, of(t, "COUNTIF(A1,ROWS(2))+FOO()"), api.ErrArg)
}

// outerCall is a call that is wrong by itself and has a kid.
func outerCall(e api.Errno, kid api.Node) api.Node {
	switch e {
	case api.ErrNone:
		return call("FOO", number(1), kid)
	case api.ErrArity:
		return call("ABS", kid, kid)
	}
	return call("COUNTIF", kid, kid)
}

// wrongNodes are no formulas, by what tree.Check tells; each has a call within that no function has.
func wrongNodes() map[api.Errno][]api.Node {
	foo, rows := call("FOO"), call("ROWS", number(1))
	not := []api.Node{{}, {Kind: 7, Kids: []api.Node{foo}}, {Kind: api.NCell}, {Kind: api.NRange, Cell: at(1, 1)}, {Kind: api.NNeg}, {Kind: api.NBin, S: "+", Kids: []api.Node{foo}}, {Kind: api.NCall}, call("sum", foo), call("FOO", api.Node{}), call("ROWS", api.Node{Kind: api.NCell}), number(-1), call("SUM", number(-1)), bin("+", foo, api.Node{}), call("ROWS", api.Node{Kind: api.NRange, Cell: at(1, 1), To: at(0, 0)}), call("ROWS", fault(0)), {Kind: api.NCall, S: "SUM", Cell: at(1, 1), Kids: []api.Node{foo}}, call("ABCDEFGHIJKLMNOPQRSTU")}
	var deep, big []api.Node
	for _, lowest := range []api.Node{number(1), foo, rows, one(at(1, 1))} {
		for _, above := range holders() {
			deep = append(deep, chain(41, lowest, above), chain(100, lowest, above), chain(161, lowest, above), chain(300, lowest, above))
		}
		many := append(slices.Repeat([]api.Node{one(at(1, 1))}, 4095), lowest)
		big = append(big, call("SUM", many...), call("FOO", many...), call("SUM", lowest, call("SUM", many...)))
	}
	deep = slices.DeleteFunc(deep, func(n api.Node) bool { return wantDepth(n) <= 40 })
	big = append(big, shared(10, 3), shared(20, 4))
	return map[api.Errno][]api.Node{api.ErrArg: not, api.ErrDeep: append(deep, shared(400, 2), itself()), api.ErrBig: big}
}

func wantDepth(n api.Node) int {
	below := 0
	for _, k := range n.Kids {
		below = max(below, wantDepth(k))
	}
	return 1 + below
}

// shared is a call of so many calls, all of them the same, and so on downwards.
func shared(depth, many int) api.Node {
	return chain(depth, call("NA"), func(k api.Node) api.Node { return call("SUM", slices.Repeat([]api.Node{k}, many)...) })
}

// itself is a - of itself.
func itself() api.Node {
	n := neg(number(1))
	n.Kids[0] = n
	return n
}

// P9.2, P9.3, P9.4: what is no formula is told as tree.Check tells it, ahead of all else, and calls nothing.
func TestNoFormulas(t *testing.T) {
	for want, all := range wrongNodes() {
		for _, n := range all {
			if got := Check(n); got != want {
				t.Errorf("Check(%.60v) = %d, want %d", n.Kids, got, want)
			}
			if got, e := Rects(n); len(got) > 0 || e != want {
				t.Errorf("Rects = %v, %d, want %d", got, e, want)
			}
			for _, name := range []string{"SUM", "FOO", "ROWS", "NA", "IF", "MATCH", "", "sum"} {
				if Uses(n, name) {
					t.Errorf("what is no formula (%d) uses %q", want, name)
				}
			}
		}
	}
}

// P9.2: at the limits a formula passes: of 40 levels, and of 4096 nodes.
func TestCheckLimits(t *testing.T) {
	for how, above := range holders() {
		n := number(1)
		for wantDepth(n) < 40 {
			n = above(n)
		}
		if Check(n) != api.OK || Check(above(n)) != api.ErrDeep {
			t.Errorf("of %s: %d at 40 levels, %d at 41", how, Check(n), Check(above(n)))
		}
	}
	// A SUM of 4 times 30 SUMs of 30 cells, and of others.
	thirty := call("SUM", slices.Repeat([]api.Node{one(at(1, 1))}, 30)...)
	wide := call("SUM", slices.Repeat([]api.Node{thirty}, 30)...)
	rest := call("SUM", slices.Repeat([]api.Node{thirty}, 11)...)
	n := call("SUM", wide, wide, wide, wide, rest, call("SUM", thirty.Kids[:20]...))
	for len(listed(n)) < 4096 {
		n.Kids = append(n.Kids, number(1))
	}
	if len(n.Kids) > 29 {
		t.Fatalf("%d kids", len(n.Kids))
	}
	checks(t, n, api.OK)
	n.Kids = append(n.Kids, number(1))
	checks(t, n, api.ErrBig)
}

// P9.2: formulas by chance, against the second telling.
func TestCheckAny(t *testing.T) {
	r := rand.New(rand.NewSource(1))
	told := map[api.Errno]int{}
	for range 30000 {
		n := anyFormula(r, 1+r.Intn(6), 5+r.Intn(40))
		want := wantCheck(n)
		checks(t, n, want)
		told[want]++
	}
	for _, e := range []api.Errno{api.OK, api.ErrNone, api.ErrArity, api.ErrArg} {
		if told[e] < 200 {
			t.Errorf("error %d was told %d times", e, told[e])
		}
	}
}

// P9.6: what passes, its kids pass.
func TestKept(t *testing.T) {
	r := rand.New(rand.NewSource(2))
	kids := 0
	for range 10000 {
		n := anyFormula(r, 2+r.Intn(6), 0)
		checks(t, n, api.OK)
		for _, k := range listed(n) {
			checks(t, k, api.OK)
			kids++
		}
	}
	if kids < 50000 {
		t.Errorf("%d kids", kids)
	}
	for _, s := range names {
		for _, k := range fittingKids(known[s], known[s].Least) {
			checks(t, k, api.OK)
		}
	}
}
