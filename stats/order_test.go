package stats

import (
	"math"
	"slices"
	"strings"
	"testing"

	"foolscap/api"
)

// rising tells a list of all numbers from one to another.
func rising(from, to int) []int {
	var out []int
	for n := from; n <= to; n++ {
		out = append(out, n)
	}
	return out
}

func reversed(l []int) []int {
	out := slices.Clone(l)
	slices.Reverse(out)
	return out
}

// P16.3
func TestLeast(t *testing.T) {
	check(t, "Least", Least, []listCase{
		{nil, number(0)}, {[]int{}, number(0)},
		{[]int{0}, number(0)}, {[]int{1}, number(1)}, {[]int{-1}, number(-1)}, {[]int{most}, number(most)}, {[]int{-most}, number(-most)},
		{[]int{1, 2}, number(1)}, {[]int{2, 1}, number(1)}, {[]int{3, 1, 2}, number(1)}, {[]int{1, 3, 2}, number(1)}, {[]int{3, 2, 1}, number(1)}, {[]int{5, 5, 5}, number(5)}, {[]int{2, 5, 2}, number(2)},
		{[]int{most, most - 1}, number(most - 1)}, {[]int{0, -most, most}, number(-most)}, {[]int{0, 1, -1}, number(-1)},
		{rising(1, maxArea), number(1)}, {reversed(rising(1, maxArea)), number(1)}, {repeated(7, maxArea), number(7)}, {append(repeated(7, maxArea-1), 6), number(6)},
		{repeated(7, maxArea+1), refused(api.Range)},
	})
}

// P16.3
func TestGreatest(t *testing.T) {
	check(t, "Greatest", Greatest, []listCase{
		{nil, number(0)}, {[]int{}, number(0)},
		{[]int{0}, number(0)}, {[]int{1}, number(1)}, {[]int{-1}, number(-1)}, {[]int{most}, number(most)}, {[]int{-most}, number(-most)},
		{[]int{1, 2}, number(2)}, {[]int{2, 1}, number(2)}, {[]int{3, 1, 2}, number(3)}, {[]int{1, 3, 2}, number(3)}, {[]int{1, 2, 3}, number(3)}, {[]int{5, 5, 5}, number(5)}, {[]int{5, 2, 5}, number(5)}, {[]int{-3, -2}, number(-2)},
		{[]int{-most, -most + 1}, number(-most + 1)}, {[]int{0, -most, most}, number(most)}, {[]int{0, 1, -1}, number(1)},
		{rising(1, maxArea), number(maxArea)}, {reversed(rising(1, maxArea)), number(maxArea)}, {repeated(-7, maxArea), number(-7)}, {append(repeated(-7, maxArea-1), -6), number(-6)},
		{repeated(7, maxArea+1), refused(api.Range)},
	})
}

// P16.3
func TestMedian(t *testing.T) {
	check(t, "Median", Median, []listCase{
		{[]int{5 * unit, unit, 3 * unit}, number(3 * unit)}, {[]int{unit, 2 * unit}, number(1500000)}, // the chapter's examples
		{nil, refused(api.Range)}, {[]int{}, refused(api.Range)},
		{[]int{0}, number(0)}, {[]int{1}, number(1)}, {[]int{-1}, number(-1)}, {[]int{most}, number(most)}, {[]int{-most}, number(-most)},
		{[]int{0, 1}, number(0)}, {[]int{1, 2}, number(2)}, {[]int{2, 3}, number(2)}, {[]int{3, 4}, number(4)}, {[]int{4, 3}, number(4)}, // the middle, between an even one and an odd one
		{[]int{0, -1}, number(0)}, {[]int{-1, -2}, number(-2)}, {[]int{-2, -3}, number(-2)}, {[]int{-3, -4}, number(-4)},
		{[]int{9, 1, 2, -9}, number(2)}, {[]int{9, 2, 3, -9}, number(2)}, {[]int{9, -1, -2, -9}, number(-2)}, {[]int{1, 5, 5, 9}, number(5)}, {[]int{1, 1, 5, 5}, number(3)}, {[]int{1, 1, 1, 9}, number(1)},
		{[]int{5, 5, 5}, number(5)}, {[]int{5, 1, 5}, number(5)}, {[]int{1, 5, 1}, number(1)}, {[]int{3, 1, 4, 1, 5}, number(3)}, {[]int{0, 100, 0, 100, 7}, number(7)},
		{[]int{most, -most}, number(0)}, {[]int{most, -most + 1}, number(0)}, {[]int{most, -most + 3}, number(2)}, {[]int{most - 3, -most}, number(-2)}, {[]int{most, most}, number(most)}, {[]int{-most, -most}, number(-most)}, {[]int{most, most - 1}, number(most)}, {[]int{-most, -most + 1}, number(-most)}, {[]int{most - 1, most - 2}, number(most - 2)}, {[]int{most, 0, -most}, number(0)},
		{rising(1, maxArea), number(2048)}, {rising(0, maxArea-1), number(2048)}, {reversed(rising(1, maxArea)), number(2048)}, {rising(1, maxArea-1), number(2048)}, {rising(1, maxArea-2), number(2048)}, {rising(2, maxArea-2), number(2048)}, {rising(2, maxArea-1), number(2048)}, {repeated(7, maxArea), number(7)}, {slices.Concat(repeated(most, maxArea/2), repeated(-most, maxArea/2)), number(0)}, {slices.Concat(repeated(most, maxArea/2), repeated(-most, maxArea/2-1)), number(most)},
		{repeated(7, maxArea+1), refused(api.Range)},
	})
}

// P16.3
func TestMode(t *testing.T) {
	check(t, "Mode", Mode, []listCase{
		{[]int{unit, 2 * unit, 2 * unit, unit}, number(unit)}, // the chapter's example
		{nil, refused(api.NA)}, {[]int{}, refused(api.NA)}, {[]int{0}, refused(api.NA)}, {[]int{7}, refused(api.NA)}, {[]int{1, 2}, refused(api.NA)}, {[]int{1, -1}, refused(api.NA)}, {[]int{0, 1, 2}, refused(api.NA)}, {[]int{most, -most, 0}, refused(api.NA)},
		{[]int{1, 1}, number(1)}, {[]int{0, 0}, number(0)}, {[]int{-1, -1}, number(-1)}, {[]int{most, most}, number(most)}, {[]int{-most, -most}, number(-most)}, {[]int{5, 5, 5}, number(5)}, {[]int{2, 5, 2}, number(2)}, {[]int{5, 2, 2}, number(2)}, {[]int{0, 7, 7}, number(7)},
		{[]int{2, 1, 1, 2}, number(2)}, {[]int{1, 2, 1, 2}, number(1)}, {[]int{2, 1, 2, 1}, number(2)}, {[]int{9, 1, 2, 2, 1, 0}, number(1)}, {[]int{9, 2, 1, 1, 2, 0}, number(2)}, // equally often
		{[]int{1, 2, 2, 2, 1}, number(2)}, {[]int{2, 1, 2, 1, 1}, number(1)}, {[]int{1, 1, 2, 2, 2}, number(2)}, {[]int{2, 2, 1, 1, 1}, number(1)}, {[]int{3, 3, 2, 2, 2, 1, 1, 1}, number(2)}, {[]int{3, 1, 1, 1, 2, 2, 2, 3}, number(1)},
		{rising(1, maxArea), refused(api.NA)}, {repeated(7, maxArea), number(7)}, {append(rising(1, maxArea-1), maxArea-1), number(maxArea - 1)}, {append(rising(1, maxArea-1), 1), number(1)}, {slices.Concat(rising(1, maxArea/2), reversed(rising(1, maxArea/2))), number(1)}, {slices.Concat(reversed(rising(1, maxArea/2)), rising(1, maxArea/2)), number(maxArea / 2)},
		{repeated(7, maxArea+1), refused(api.Range)},
	})
}

type kCase struct {
	l            []int
	k            int
	large, small result
}

func checkK(t *testing.T, cases []kCase) {
	t.Helper()
	for _, c := range cases {
		if r := got(Large(c.l, c.k)); r != c.large {
			t.Errorf("Large(%v, %d) = %v; want %v", shortened(c.l), c.k, r, c.large)
		}
		if r := got(Small(c.l, c.k)); r != c.small {
			t.Errorf("Small(%v, %d) = %v; want %v", shortened(c.l), c.k, r, c.small)
		}
	}
}

// P16.4
func TestLargeAndSmall(t *testing.T) {
	threes := []int{5 * unit, unit, 3 * unit}
	many := rising(1, maxArea)
	checkK(t, []kCase{
		{threes, 2, number(3 * unit), number(3 * unit)}, {threes, 1, number(5 * unit), number(unit)}, {threes, 3, number(unit), number(5 * unit)}, // the chapter's example
		{[]int{7}, 1, number(7), number(7)}, {[]int{0}, 1, number(0), number(0)}, {[]int{most}, 1, number(most), number(most)}, {[]int{-most}, 1, number(-most), number(-most)},
		{[]int{1, 2}, 1, number(2), number(1)}, {[]int{1, 2}, 2, number(1), number(2)}, {[]int{2, 1}, 1, number(2), number(1)}, {[]int{2, 1}, 2, number(1), number(2)},
		{[]int{5, 5, 5}, 1, number(5), number(5)}, {[]int{5, 5, 5}, 2, number(5), number(5)}, {[]int{5, 5, 5}, 3, number(5), number(5)},
		{[]int{5, 1, 5}, 1, number(5), number(1)}, {[]int{5, 1, 5}, 2, number(5), number(5)}, {[]int{5, 1, 5}, 3, number(1), number(5)},
		{[]int{3, 1, 3, 2, 1}, 3, number(2), number(2)}, {[]int{3, 1, 3, 2, 1}, 2, number(3), number(1)}, {[]int{3, 1, 3, 2, 1}, 4, number(1), number(3)},
		{[]int{most, -most, 0}, 1, number(most), number(-most)}, {[]int{most, -most, 0}, 2, number(0), number(0)}, {[]int{most, most - 1, most}, 3, number(most - 1), number(most)},
		{many, 1, number(maxArea), number(1)}, {many, maxArea, number(1), number(maxArea)}, {many, 1000, number(maxArea - 999), number(1000)}, {reversed(many), 1000, number(maxArea - 999), number(1000)}, {repeated(7, maxArea), 2000, number(7), number(7)},
	})
	for _, l := range [][]int{nil, {}, {7}, {1, 2}, threes, {5, 5, 5, 5}, many, repeated(7, maxArea)} {
		for _, k := range []int{0, -1, -len(l), -len(l) - 1, -maxArea, math.MinInt, math.MinInt + 1, math.MinInt + len(l), math.MinInt + len(l) + 1, len(l) + 1, len(l) + 2, 2*len(l) + 1, maxArea + 1, unit, 1 << 32, 1<<32 + 1, math.MaxInt, math.MaxInt - 1} {
			checkK(t, []kCase{{l, k, refused(api.Range), refused(api.Range)}})
		}
	}
	over := rising(1, maxArea+1)
	for _, k := range []int{0, 1, 2, maxArea, maxArea + 1, maxArea + 2} {
		checkK(t, []kCase{{over, k, refused(api.Range), refused(api.Range)}})
	}
}

// P16.4
func TestEachOfAList(t *testing.T) {
	for _, l := range append(scattered(5, 400, 40), scattered(6, 6, 300)...) {
		for k := -1; k <= len(l)+1; k++ {
			checkK(t, []kCase{{l, k, wantLarge(l, k), wantSmall(l, k)}})
		}
	}
}

// P16.4: every list of up to six small numbers, so that each way of parting is gone.
func TestEachOfShortLists(t *testing.T) {
	for _, l := range short() {
		for k := 1; k <= len(l); k++ {
			if r, w := got(Small(l, k)), wantSmall(l, k); r != w {
				t.Fatalf("Small(%v, %d) = %v; want %v", l, k, r, w)
			}
			if r, w := got(Large(l, k)), wantLarge(l, k); r != w {
				t.Fatalf("Large(%v, %d) = %v; want %v", l, k, r, w)
			}
		}
	}
}

// P16.4: lists that are bad to part: with few numbers often, with humps, with one end behind the other.
func TestListsThatAreBadToPart(t *testing.T) {
	up := rising(1, maxArea/2)
	lists := [][]int{rising(1, maxArea), reversed(rising(1, maxArea)), slices.Concat(up, reversed(up)), slices.Concat(reversed(up), up), repeated(0, maxArea), slices.Repeat([]int{1, 0}, maxArea/2), slices.Repeat([]int{2, 0, 1, 3}, maxArea/4), woven()}
	for i, l := range lists {
		for k := 1; k <= maxArea; k += 31 {
			if r, w := got(Small(l, k)), wantSmall(l, k); r != w {
				t.Fatalf("Small of list %d, %d = %v; want %v", i, k, r, w)
			}
			if r, w := got(Large(l, k)), wantLarge(l, k); r != w {
				t.Fatalf("Large of list %d, %d = %v; want %v", i, k, r, w)
			}
		}
	}
}

// woven tells a list in which small numbers and great ones take turns.
func woven() []int {
	var out []int
	for n := range maxArea / 2 {
		out = append(out, n, maxArea-n)
	}
	return out
}

type rankCase struct {
	n               int
	l               []int
	falling, rising result
}

func checkRank(t *testing.T, cases []rankCase) {
	t.Helper()
	for _, c := range cases {
		if r := got(Rank(c.n, c.l, false)); r != c.falling {
			t.Errorf("Rank(%d, %v, false) = %v; want %v", c.n, shortened(c.l), r, c.falling)
		}
		if r := got(Rank(c.n, c.l, true)); r != c.rising {
			t.Errorf("Rank(%d, %v, true) = %v; want %v", c.n, shortened(c.l), r, c.rising)
		}
	}
}

// P16.5
func TestRank(t *testing.T) {
	threes := []int{5 * unit, unit, 3 * unit}
	many := rising(1, maxArea)
	none := refused(api.NA)
	checkRank(t, []rankCase{
		{3 * unit, threes, number(2 * unit), number(2 * unit)}, {5 * unit, threes, number(unit), number(3 * unit)}, {unit, threes, number(3 * unit), number(unit)}, // the chapter's example
		{0, nil, none, none}, {0, []int{}, none, none}, {unit, nil, none, none}, {2 * unit, threes, none, none}, {unit - 1, threes, none, none}, {unit + 1, threes, none, none}, {-unit, threes, none, none}, {most, threes, none, none}, {-most, threes, none, none}, {0, threes, none, none}, {6 * unit, threes, none, none},
		{7, []int{7}, number(unit), number(unit)}, {0, []int{0}, number(unit), number(unit)}, {most, []int{most}, number(unit), number(unit)}, {-most, []int{-most}, number(unit), number(unit)}, {6, []int{7}, none, none}, {8, []int{7}, none, none},
		{1, []int{1, 2}, number(2 * unit), number(unit)}, {2, []int{1, 2}, number(unit), number(2 * unit)}, {2, []int{2, 1}, number(unit), number(2 * unit)},
		{5, []int{5, 5, 5}, number(unit), number(unit)}, {5, []int{5, 1, 5}, number(unit), number(2 * unit)}, {1, []int{5, 1, 5}, number(3 * unit), number(unit)}, {1, []int{1, 5, 1}, number(2 * unit), number(unit)}, {3, []int{5, 3, 1, 3, 4, 2}, number(3 * unit), number(3 * unit)}, // those that are there often
		{0, []int{1, 0, -1}, number(2 * unit), number(2 * unit)}, {1, []int{1, 0, -1}, number(unit), number(3 * unit)}, {-1, []int{1, 0, -1}, number(3 * unit), number(unit)}, {most, []int{most - 1, most, -most}, number(unit), number(3 * unit)}, {most - 1, []int{most - 1, most, -most}, number(2 * unit), number(2 * unit)}, {-most, []int{most - 1, most, -most}, number(3 * unit), number(unit)}, {-most + 1, []int{most - 1, most, -most}, none, none},
		{1, many, number(maxArea * unit), number(unit)}, {maxArea, many, number(unit), number(maxArea * unit)}, {1000, many, number((maxArea - 999) * unit), number(1000 * unit)}, {0, many, none, none}, {maxArea + 1, many, none, none}, {7, repeated(7, maxArea), number(unit), number(unit)}, {8, append(repeated(7, maxArea-1), 8), number(unit), number(maxArea * unit)},
		{1, rising(1, maxArea+1), refused(api.Range), refused(api.Range)}, {0, rising(1, maxArea+1), refused(api.Range), refused(api.Range)},
	})
	for _, n := range notFitting() {
		for _, l := range [][]int{nil, {0}, {n}, threes, {0, n, 0}, many, rising(1, maxArea+1)} {
			checkRank(t, []rankCase{{n, l, refused(api.Range), refused(api.Range)}})
		}
		for _, l := range [][]int{{n}, {n, unit}, {unit, n}, {unit, n, unit}, {2 * unit, n}} {
			checkRank(t, []rankCase{{unit, l, refused(api.Range), refused(api.Range)}})
		}
	}
}

// P16.5
func TestRankAgainstTheSecondTelling(t *testing.T) {
	for _, l := range append(scattered(7, 3000, 20), scattered(8, 20, maxArea)...) {
		asked := []int{0, 1, -1, most, -most}
		for i := 0; i < len(l); i += 1 + len(l)/7 {
			asked = append(asked, l[i], min(l[i]+1, most), max(l[i]-1, -most))
		}
		for _, n := range asked {
			checkRank(t, []rankCase{{n, l, wantRank(n, l, false), wantRank(n, l, true)}})
		}
	}
}

// P16.5: each edge as the number that is asked for, with it, its neighbours and others in the list or not.
func TestRankOfEdges(t *testing.T) {
	for _, n := range append(fitting(), notFitting()...) {
		for _, l := range [][]int{nil, {n}, {n - 1}, {n + 1}, {n - 1, n, n + 1}, {n + 1, n - 1}, {n, 0, n}, {0, n, unit}, {most, -most, n}, {unit, -unit, 1, -1}, {most, -most, 0}, {-most, most}} {
			checkRank(t, []rankCase{{n, l, wantRank(n, l, false), wantRank(n, l, true)}})
		}
	}
}

// P16.4: the generic function parts texts and floats as it parts numbers.
func TestTheKthOfOtherThings(t *testing.T) {
	words := strings.Fields("so it goes on and on until it ends so")
	sorted := slices.Sorted(slices.Values(words))
	floats := []float64{2.5, -1, math.Inf(1), 0.5, math.Inf(-1), 2.5, math.NaN()}
	row := slices.Sorted(slices.Values(floats))
	for k := 1; k <= len(words); k++ {
		if w := kth(words, k); w != sorted[k-1] {
			t.Errorf("the word %d is %q; want %q", k, w, sorted[k-1])
		}
	}
	for k := 2; k <= len(floats); k++ {
		if f := kth(floats, k); f != row[k-1] {
			t.Errorf("the float %d is %v; want %v", k, f, row[k-1])
		}
	}
	if words[0] != "so" || words[9] != "so" || floats[0] != 2.5 {
		t.Error("a list was changed")
	}
}
