package maths

import (
	"math"
	"math/big"
	"math/rand"
	"testing"

	"foolscap/api"
)

// The tests hold the package against big numbers, of which the one that the chapter's words ask for is picked; they share no code with it.

const (
	unit = api.Unit
	most = api.MaxNum
)

// kinds of calls.
type (
	unary  func(n int) (int, api.Code)
	binary func(a, b int) (int, api.Code)
	listed func(l []int) (int, api.Code)
)

type result struct {
	n int
	c api.Code
}

func got(n int, c api.Code) result { return result{n, c} }

// refused is what a call answers with a code alone.
func refused(c api.Code) result { return result{0, c} }

// edges are numbers at which something turns, on both sides of 0; some of them do not fit.
func edges() []int {
	out := []int{0, math.MinInt, math.MinInt + 1, math.MaxInt, math.MaxInt - 1}
	for _, n := range []int{1, 2, 3, 4, 5, 9, 10, 11, 999, 1000, 1001, 499999, 500000, 500001, unit - 1, unit, unit + 1, 1500000,
		2*unit - 1, 2 * unit, 2*unit + 1, 3 * unit, 5*unit - 1, 5 * unit, 10 * unit, 14 * unit, 15 * unit, 999 * unit, 1000*unit - 1,
		1000 * unit, 1000*unit + 1, 1001 * unit, 1 << 32, unit*unit - 1, unit * unit, unit*unit + 1, 1 << 53, most/2 - 1, most / 2,
		most/2 + 1, most - 2*unit, most - unit - 1, most - unit, most - unit + 1, most - 2, most - 1, most, most + 1, most + 2,
		most + unit, math.MaxInt / 2} {
		out = append(out, n, -n)
	}
	return out
}

// scattered tells numbers that fit, of all lengths, the same ones each time.
func scattered(seed int64, many int) []int {
	r := rand.New(rand.NewSource(seed))
	out := make([]int, many)
	for i := range out {
		n := r.Int() % (most + 1) >> r.Intn(60)
		if r.Intn(4) == 0 {
			n -= n % unit
		}
		if r.Intn(2) == 0 {
			n = -n
		}
		out[i] = n
	}
	return out
}

// pairs tells every pair of edges, and scattered ones.
func pairs(seed int64, many int) [][2]int {
	var out [][2]int
	for _, a := range edges() {
		for _, b := range edges() {
			out = append(out, [2]int{a, b})
		}
	}
	l := scattered(seed, 2*many)
	for i := range many {
		out = append(out, [2]int{l[2*i], l[2*i+1]})
	}
	return out
}

// placesAsked are all places that may be asked for, and some of those that may not.
func placesAsked() []int {
	out := []int{math.MinInt, math.MinInt + 6, math.MinInt + 7, math.MaxInt, math.MaxInt - 6, -1 << 32, 1 << 32, -1000000, 6000000}
	for places := -15; places <= 9; places++ {
		out = append(out, places)
	}
	return out
}

func inside(n int) bool { return n >= -most && n <= most }

func whole(n int) *big.Int { return big.NewInt(int64(n)) }

func sum(a *big.Int, b int) *big.Int { return new(big.Int).Add(a, whole(b)) }

func times(a *big.Int, b int) *big.Int { return new(big.Int).Mul(a, whole(b)) }

// fitted tells a number as the package has to tell it.
func fitted(n *big.Int) result {
	if n.CmpAbs(whole(most)) > 0 {
		return refused(api.Range)
	}
	return result{int(n.Int64()), api.None}
}

// floored tells the greatest whole number that is not above a/b.
func floored(a, b *big.Int) *big.Int {
	exact := new(big.Rat).SetFrac(a, b)
	q, rest := new(big.Int).QuoRem(exact.Num(), exact.Denom(), new(big.Int))
	if rest.Sign() < 0 {
		q.Sub(q, whole(1))
	}
	return q
}

// rounded tells a/b, rounded to the even neighbour.
func rounded(a, b *big.Int) *big.Int {
	low := floored(a, b)
	off := new(big.Rat).Sub(new(big.Rat).SetFrac(a, b), new(big.Rat).SetInt(low))
	side := off.Cmp(big.NewRat(1, 2))
	if side > 0 || side == 0 && low.Bit(0) == 1 {
		return sum(low, 1)
	}
	return low
}

// nearest tells which of the multiples of step that are right is nearest to n, the greater one of two; those about n, about 0 and about -n are looked at.
func nearest(n, step int, right func(multiple *big.Int) bool) *big.Int {
	var out *big.Int
	off := func(m *big.Int) *big.Int { return new(big.Int).Abs(new(big.Int).Sub(m, whole(n))) }
	for _, centre := range []int{n, 0, -n} {
		about := floored(whole(centre), whole(step))
		for k := -3; k <= 3; k++ {
			m := times(sum(about, k), step)
			if !right(m) {
				continue
			}
			if out == nil || off(m).Cmp(off(out)) < 0 || off(m).Cmp(off(out)) == 0 && m.Cmp(out) > 0 {
				out = m
			}
		}
	}
	return out
}

func notNearerToNought(n int) func(m *big.Int) bool {
	return func(m *big.Int) bool { return m.CmpAbs(whole(n)) >= 0 }
}

func notFartherFromNought(n int) func(m *big.Int) bool {
	return func(m *big.Int) bool { return m.CmpAbs(whole(n)) <= 0 }
}

func wantAbs(n int) result {
	if !inside(n) {
		return refused(api.Range)
	}
	return fitted(new(big.Int).Abs(whole(n)))
}

func wantSign(n int) result {
	if !inside(n) {
		return refused(api.Range)
	}
	return fitted(times(whole(unit), whole(n).Sign()))
}

// stepOf tells how many millionths a decimal place has.
func stepOf(places int) int {
	return int(new(big.Int).Exp(whole(10), whole(6-places), nil).Int64())
}

func wantPlaces(n, places int, right func(n int) func(m *big.Int) bool) result {
	if !inside(n) || places < -12 || places > 6 {
		return refused(api.Range)
	}
	return fitted(nearest(n, stepOf(places), right(n)))
}

func wantUp(n, places int) result { return wantPlaces(n, places, notNearerToNought) }

func wantDown(n, places int) result { return wantPlaces(n, places, notFartherFromNought) }

// wantParity tells the nearest whole number whose last bit it is.
func wantParity(n int, bit uint) result {
	if !inside(n) {
		return refused(api.Range)
	}
	return fitted(nearest(n, unit, func(m *big.Int) bool {
		return notNearerToNought(n)(m) && new(big.Int).Quo(m, whole(unit)).Bit(0) == bit
	}))
}

func wantEven(n int) result { return wantParity(n, 0) }

func wantOdd(n int) result { return wantParity(n, 1) }

func wantStep(n, step int, right func(m *big.Int) bool) result {
	switch {
	case !inside(n) || !inside(step):
		return refused(api.Range)
	case n == 0:
		return result{0, api.None}
	case step == 0:
		return refused(api.Div)
	case n > 0 && step < 0:
		return refused(api.Range)
	}
	return fitted(nearest(n, step, right))
}

func wantCeiling(n, step int) result {
	return wantStep(n, step, func(m *big.Int) bool { return m.Cmp(whole(n)) >= 0 })
}

func wantFloor(n, step int) result {
	return wantStep(n, step, func(m *big.Int) bool { return m.Cmp(whole(n)) <= 0 })
}

func wantQuotient(a, b int) result {
	switch {
	case !inside(a) || !inside(b):
		return refused(api.Range)
	case b == 0:
		return refused(api.Div)
	}
	exact := new(big.Rat).SetFrac(whole(a), whole(b))
	part := new(big.Int).Abs(floored(new(big.Int).Abs(exact.Num()), exact.Denom()))
	return fitted(times(times(part, unit), exact.Sign()))
}

func wantPower(n, k int) result {
	if !inside(n) || !inside(k) || k%unit != 0 || k > 1000*unit || k < -1000*unit || k == 0 && n == 0 {
		return refused(api.Range)
	}
	if k == 0 {
		return result{unit, api.None}
	}
	product := whole(n)
	for i := 2; i <= k/unit || i <= -k/unit; i++ {
		product = rounded(times(product, n), whole(unit))
		if product.CmpAbs(whole(most)) > 0 {
			return refused(api.Range)
		}
	}
	switch {
	case k > 0:
		return fitted(product)
	case product.Sign() == 0:
		return refused(api.Div)
	}
	return fitted(rounded(times(whole(unit), unit), product))
}

// wantRoot holds the floor of the exact root against the middle behind it, both doubled.
func wantRoot(n int) result {
	if !inside(n) || n < 0 {
		return refused(api.Range)
	}
	square := times(whole(n), unit)
	low := new(big.Int).Sqrt(square)
	middle := sum(times(low, 2), 1)
	if times(square, 4).Cmp(middle.Mul(middle, middle)) > 0 {
		return fitted(sum(low, 1))
	}
	return fitted(low)
}

func wantFact(n int) result {
	if !inside(n) || n < 0 {
		return refused(api.Range)
	}
	return fitted(times(new(big.Int).MulRange(1, int64(min(n/unit, 100))), unit))
}

// wholes tells a list's whole parts, if all of it may be.
func wholes(l []int) ([]*big.Int, bool) {
	var out []*big.Int
	for _, n := range l {
		if n < 0 || n > most {
			return nil, false
		}
		out = append(out, floored(whole(n), whole(unit)))
	}
	return out, true
}

func wantGcd(l []int) result {
	parts, ok := wholes(l)
	if !ok {
		return refused(api.Range)
	}
	all := new(big.Int)
	for _, p := range parts {
		all.GCD(nil, nil, all, p)
	}
	return fitted(times(all, unit))
}

// wantLcm bears numbers of any size on the way.
func wantLcm(l []int) result {
	parts, ok := wholes(l)
	if !ok {
		return refused(api.Range)
	}
	all := whole(1)
	for _, p := range parts {
		if common := new(big.Int).GCD(nil, nil, all, p); common.Sign() != 0 {
			all = new(big.Int).Mul(all, new(big.Int).Quo(p, common))
		}
	}
	return fitted(times(all, unit))
}

func TestOracle(t *testing.T) {
	for _, c := range []struct{ got, want result }{
		{wantAbs(-5), result{5, api.None}},
		{wantSign(-5), result{-unit, api.None}},
		{wantUp(2001000, 2), result{2010000, api.None}},
		{wantUp(-2001000, 2), result{-2010000, api.None}},
		{wantDown(-2009000, 2), result{-2 * unit, api.None}},
		{wantDown(1, 7), refused(api.Range)},
		{wantEven(2500000), result{4 * unit, api.None}},
		{wantOdd(-1500000), result{-3 * unit, api.None}},
		{wantOdd(0), result{unit, api.None}},
		{wantCeiling(-7*unit, 5*unit), result{-5 * unit, api.None}},
		{wantFloor(-7*unit, -5*unit), result{-10 * unit, api.None}},
		{wantQuotient(-7*unit, 2*unit), result{-3 * unit, api.None}},
		{wantPower(2*unit, -unit), result{unit / 2, api.None}},
		{wantPower(unit/2, 10*unit), result{976, api.None}},
		{wantRoot(2 * unit), result{1414214, api.None}},
		{wantFact(5 * unit), result{120 * unit, api.None}},
		{wantGcd([]int{12 * unit, 18 * unit}), result{6 * unit, api.None}},
		{wantLcm([]int{4 * unit, 6 * unit}), result{12 * unit, api.None}},
		{wantLcm([]int{most, most - unit, 0}), result{0, api.None}},
	} {
		if c.got != c.want {
			t.Errorf("the second telling tells %v; want %v", c.got, c.want)
		}
	}
}

type unaryCase struct {
	n, want int
	c       api.Code
}

func checkUnary(t *testing.T, name string, f unary, cases []unaryCase) {
	t.Helper()
	for _, c := range cases {
		if n, code := f(c.n); n != c.want || code != c.c {
			t.Errorf("%s(%d) = %d, %d; want %d, %d", name, c.n, n, code, c.want, c.c)
		}
	}
}

type binaryCase struct {
	a, b, want int
	c          api.Code
}

func checkBinary(t *testing.T, name string, f binary, cases []binaryCase) {
	t.Helper()
	for _, c := range cases {
		if n, code := f(c.a, c.b); n != c.want || code != c.c {
			t.Errorf("%s(%d, %d) = %d, %d; want %d, %d", name, c.a, c.b, n, code, c.want, c.c)
		}
	}
}

type listCase struct {
	l    []int
	want int
	c    api.Code
}

func checkListed(t *testing.T, name string, f listed, cases []listCase) {
	t.Helper()
	for _, c := range cases {
		if n, code := f(c.l); n != c.want || code != c.c {
			t.Errorf("%s(%v) = %d, %d; want %d, %d", name, c.l, n, code, c.want, c.c)
		}
	}
}

// holdUnary holds a call against its second telling, at edges and at scattered numbers.
func holdUnary(t *testing.T, name string, f unary, want func(n int) result) {
	t.Helper()
	for _, n := range append(edges(), scattered(1, 20000)...) {
		if r, w := got(f(n)), want(n); r != w {
			t.Fatalf("%s(%d) = %v; want %v", name, n, r, w)
		}
	}
}

// holdBinary does so at pairs.
func holdBinary(t *testing.T, name string, f binary, want func(a, b int) result) {
	t.Helper()
	for _, p := range pairs(2, 10000) {
		if r, w := got(f(p[0], p[1])), want(p[0], p[1]); r != w {
			t.Fatalf("%s(%d, %d) = %v; want %v", name, p[0], p[1], r, w)
		}
	}
}

// refusedAlone are the numbers that do not fit, each of which a call of one number refuses.
func refusedAlone() []unaryCase {
	var out []unaryCase
	for _, n := range notFitting() {
		out = append(out, unaryCase{n, 0, api.Range})
	}
	return out
}

func notFitting() []int {
	return []int{most + 1, -most - 1, most + unit, -most - unit, math.MaxInt, math.MaxInt - 1, math.MinInt, math.MinInt + 1}
}

// refusedBeside are pairs with a number that does not fit, at either place and at both, beside 0 and others that have an answer of their own.
func refusedBeside() []binaryCase {
	var out []binaryCase
	for _, n := range notFitting() {
		for _, beside := range []int{0, 1, -1, unit, -unit, 2 * unit, most, -most, n, -n} {
			out = append(out, binaryCase{n, beside, 0, api.Range}, binaryCase{beside, n, 0, api.Range})
		}
	}
	return out
}
