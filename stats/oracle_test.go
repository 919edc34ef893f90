package stats

import (
	"math"
	"math/big"
	"math/rand"
	"slices"
	"sort"
	"testing"

	"foolscap/api"
)

// The tests hold the package against big numbers and against counting and sorting, which share no code with it.

const (
	unit    = api.Unit
	most    = api.MaxNum
	maxArea = api.MaxArea
)

type result struct {
	n int
	c api.Code
}

func got(n int, c api.Code) result { return result{n, c} }

func number(n int) result { return result{n, api.None} }

// refused is what a call answers with a code alone.
func refused(c api.Code) result { return result{0, c} }

func inside(n int) bool { return n >= -most && n <= most }

// wrong tells whether one of a list's numbers does not fit, or there are too many.
func wrong(l []int) bool {
	for _, n := range l {
		if !inside(n) {
			return true
		}
	}
	return len(l) > maxArea
}

func whole(n int) *big.Int { return big.NewInt(int64(n)) }

// fitted tells a number as the package has to tell it.
func fitted(n *big.Int) result {
	if n.CmpAbs(whole(most)) > 0 {
		return refused(api.Range)
	}
	return number(int(n.Int64()))
}

// rounded tells n/d, rounded to the even neighbour: the floor of it, and one more, if what is left is more than half, or half and the floor odd.
func rounded(n *big.Int, d int) *big.Int {
	low, left := new(big.Int).DivMod(n, whole(d), new(big.Int))
	side := new(big.Int).Mul(left, whole(2)).Cmp(whole(d))
	if side > 0 || side == 0 && low.Bit(0) == 1 {
		low.Add(low, whole(1))
	}
	return low
}

func total(l []int) *big.Int {
	all := new(big.Int)
	for _, n := range l {
		all.Add(all, whole(n))
	}
	return all
}

func wantSum(l []int) result {
	if wrong(l) {
		return refused(api.Range)
	}
	return fitted(total(l))
}

func wantMean(l []int) result {
	switch {
	case wrong(l):
		return refused(api.Range)
	case len(l) == 0:
		return refused(api.Div)
	}
	return fitted(rounded(total(l), len(l)))
}

func wantProduct(l []int) result {
	switch {
	case wrong(l):
		return refused(api.Range)
	case len(l) == 0:
		return number(0)
	}
	all := number(unit)
	for _, n := range l {
		if all = fitted(rounded(new(big.Int).Mul(whole(all.n), whole(n)), unit)); all.c != api.None {
			return all
		}
	}
	return all
}

func wantDot(a, b []int) result {
	switch {
	case wrong(a) || wrong(b):
		return refused(api.Range)
	case len(a) != len(b):
		return refused(api.Wrong)
	}
	all := new(big.Int)
	for i := range a {
		p := rounded(new(big.Int).Mul(whole(a[i]), whole(b[i])), unit)
		if fitted(p).c != api.None {
			return refused(api.Range)
		}
		all.Add(all, p)
	}
	return fitted(all)
}

func wantSquares(l []int) result { return wantDot(l, l) }

// in tells a list in order.
func in(l []int) []int {
	out := append([]int(nil), l...)
	sort.Ints(out)
	return out
}

func wantLeast(l []int) result {
	switch {
	case wrong(l):
		return refused(api.Range)
	case len(l) == 0:
		return number(0)
	}
	return number(in(l)[0])
}

func wantGreatest(l []int) result {
	switch {
	case wrong(l):
		return refused(api.Range)
	case len(l) == 0:
		return number(0)
	}
	return number(in(l)[len(l)-1])
}

func wantMedian(l []int) result {
	if wrong(l) || len(l) == 0 {
		return refused(api.Range)
	}
	row := in(l)
	if len(l)%2 == 1 {
		return number(row[len(l)/2])
	}
	return fitted(rounded(total(row[len(l)/2-1:len(l)/2+1]), 2))
}

// wantMode looks for runs in the list in order, and then for the first number of those that have the longest ones.
func wantMode(l []int) result {
	if wrong(l) {
		return refused(api.Range)
	}
	row, longest := in(l), 1
	for i := range row {
		for i+longest < len(row) && row[i+longest] == row[i] {
			longest++
		}
	}
	if longest == 1 {
		return refused(api.NA)
	}
	return number(l[slices.IndexFunc(l, func(n int) bool {
		at := sort.SearchInts(row, n)
		return at+longest <= len(row) && row[at+longest-1] == n
	})])
}

func wantSmall(l []int, k int) result {
	if wrong(l) || k <= 0 || k > len(l) {
		return refused(api.Range)
	}
	return number(in(l)[k-1])
}

func wantLarge(l []int, k int) result {
	if wrong(l) || k <= 0 || k > len(l) {
		return refused(api.Range)
	}
	return number(in(l)[len(l)-k])
}

// wantRank tells a place in the list in order.
func wantRank(n int, l []int, rising bool) result {
	if wrong(l) || !inside(n) {
		return refused(api.Range)
	}
	row := in(l)
	first := sort.SearchInts(row, n)
	behind := sort.SearchInts(row, n+1)
	switch {
	case first == behind:
		return refused(api.NA)
	case rising:
		return number((first + 1) * unit)
	}
	return number((len(l) - behind + 1) * unit)
}

// call is one that asks one list for something.
type call struct {
	name string
	f    func(l []int) (int, api.Code)
	want func(l []int) result
}

// calls are all that ask one list for something, Dot of the list and itself and Rank of its first number among them.
func calls() []call {
	out := []call{
		{"Sum", Sum, wantSum}, {"Product", Product, wantProduct}, {"Squares", Squares, wantSquares}, {"Mean", Mean, wantMean},
		{"Least", Least, wantLeast}, {"Greatest", Greatest, wantGreatest}, {"Median", Median, wantMedian}, {"Mode", Mode, wantMode},
		{"Dot", func(l []int) (int, api.Code) { return Dot(l, l) }, func(l []int) result { return wantDot(l, l) }},
		{"Large(1)", func(l []int) (int, api.Code) { return Large(l, 1) }, func(l []int) result { return wantLarge(l, 1) }},
		{"Small(1)", func(l []int) (int, api.Code) { return Small(l, 1) }, func(l []int) result { return wantSmall(l, 1) }},
	}
	for _, rising := range []bool{false, true} {
		name := map[bool]string{false: "Rank, falling", true: "Rank, rising"}[rising]
		out = append(out, call{name,
			func(l []int) (int, api.Code) { return Rank(first(l), l, rising) },
			func(l []int) result { return wantRank(first(l), l, rising) }})
	}
	return out
}

func first(l []int) int {
	if len(l) == 0 {
		return 0
	}
	return l[0]
}

// fitting are numbers at which something turns, on both sides of 0; notFitting are such that do not fit.
func fitting() []int {
	out := []int{0}
	for _, n := range []int{1, 2, 3, 499999, 500000, 500001, 707, 708, unit - 1, unit, unit + 1, 3 * unit / 2, 2 * unit, unit*unit - 1, unit * unit, unit*unit + 1, most / 2, most/2 + 1, most - 2, most - 1, most} {
		out = append(out, n, -n)
	}
	return out
}

func notFitting() []int {
	return []int{most + 1, -most - 1, most + unit, -most - unit, 1 << 62, -1 << 62, math.MaxInt, math.MaxInt - 1, math.MinInt, math.MinInt + 1}
}

// scattered tells many lists, the same ones each time: of numbers of all lengths, or of few ones that are there often, in any order, rising or falling.
func scattered(seed int64, many, longest int) [][]int {
	r := rand.New(rand.NewSource(seed))
	out := make([][]int, many)
	for i := range out {
		l := make([]int, r.Intn(longest+1))
		length, few := r.Intn(60), r.Intn(3) == 0
		for j := range l {
			l[j] = r.Intn(most+1) >> length
			if few {
				l[j] = r.Intn(1 + len(l)/2)
			}
			if r.Intn(2) == 0 {
				l[j] = -l[j]
			}
		}
		switch r.Intn(6) {
		case 0:
			slices.Sort(l)
		case 1:
			slices.Sort(l)
			slices.Reverse(l)
		}
		out[i] = l
	}
	return out
}

// short tells all lists of up to three edges that fit, and some of more of a few small numbers.
func short() [][]int {
	out := [][]int{nil, {}}
	edges := fitting()
	for _, a := range edges {
		out = append(out, []int{a})
		for _, b := range edges {
			out = append(out, []int{a, b})
			for _, c := range edges {
				out = append(out, []int{a, b, c})
			}
		}
	}
	for _, digits := range []int{4, 5, 6} {
		for code := range int(math.Pow(4, float64(digits))) {
			l := make([]int, digits)
			for i := range l {
				l[i], code = code%4-1, code/4
			}
			out = append(out, l)
		}
	}
	return out
}

func TestOracle(t *testing.T) {
	for _, c := range []struct{ got, want result }{
		{wantSum([]int{most, 1, -1}), number(most)},
		{wantSum([]int{most, 1}), refused(api.Range)},
		{wantMean([]int{1, 2}), number(2)},
		{wantMean([]int{-1, -2}), number(-2)},
		{wantMean([]int{-1, 0}), number(0)},
		{wantProduct([]int{500000, 3}), number(2)},
		{wantSquares([]int{707}), number(0)},
		{wantSquares([]int{708}), number(1)},
		{wantDot([]int{unit, 2 * unit}, []int{3 * unit, 4 * unit}), number(11 * unit)},
		{wantMedian([]int{5, 1, 3}), number(3)},
		{wantMedian([]int{5, 2}), number(4)},
		{wantMode([]int{3, 1, 2, 2, 1}), number(1)},
		{wantMode([]int{2, 1, 1, 2, 1}), number(1)},
		{wantMode([]int{2, 1}), refused(api.NA)},
		{wantSmall([]int{5, 1, 3}, 2), number(3)},
		{wantLarge([]int{5, 1, 3}, 1), number(5)},
		{wantRank(3, []int{5, 3, 1, 3, 4}, false), number(3 * unit)},
		{wantRank(3, []int{5, 3, 1, 3, 4}, true), number(2 * unit)},
		{wantRank(2, []int{5, 3}, true), refused(api.NA)},
	} {
		if c.got != c.want {
			t.Errorf("the second telling tells %v; want %v", c.got, c.want)
		}
	}
}

type listCase struct {
	l    []int
	want result
}

func check(t *testing.T, name string, f func(l []int) (int, api.Code), cases []listCase) {
	t.Helper()
	for _, c := range cases {
		if r := got(f(c.l)); r != c.want {
			t.Errorf("%s(%v) = %v; want %v", name, shortened(c.l), r, c.want)
		}
	}
}

// shortened tells the front of a long list, so that what has gone wrong can be read.
func shortened(l []int) []int { return l[:min(len(l), 12)] }

// repeated tells a list of many of one number.
func repeated(n, many int) []int { return slices.Repeat([]int{n}, many) }
