package wide

import (
	"math"
	"math/big"
	"math/rand"
	"testing"

	"foolscap/api"
)

// The tests hold the package against big numbers, which share no code with it.

const (
	ten18   = 1000000000000000000
	most    = api.MaxNum
	maxSum  = api.MaxSum
	topHigh = maxSum - 1
	topLow  = ten18 - 1
)

// least and greatest are the ends of what is right.
func least() api.Wide    { return api.Wide{High: -maxSum} }
func greatest() api.Wide { return api.Wide{High: topHigh, Low: topLow} }

func whole(n int) *big.Int { return big.NewInt(int64(n)) }

// amount tells what a sum comes to.
func amount(w api.Wide) *big.Int {
	out := new(big.Int).Mul(whole(w.High), whole(ten18))
	return out.Add(out, whole(w.Low))
}

// sum tells an amount as the package has to tell it.
func sum(n *big.Int) (api.Wide, api.Errno) {
	if n.Cmp(amount(least())) < 0 || n.Cmp(amount(greatest())) > 0 {
		return api.Wide{}, api.ErrOver
	}
	high, low := new(big.Int).DivMod(n, whole(ten18), new(big.Int))
	return api.Wide{High: int(high.Int64()), Low: int(low.Int64())}, api.OK
}

// number tells an amount as a number, as the package has to tell it.
func number(n *big.Int) (int, api.Errno) {
	if n.CmpAbs(whole(most)) > 0 {
		return 0, api.ErrOver
	}
	return int(n.Int64()), api.OK
}

func right(w api.Wide) bool {
	return 0 <= w.Low && w.Low <= topLow && -maxSum <= w.High && w.High <= topHigh
}

func fits(n int) bool { return -most <= n && n <= most }

// rightSums are the right sums at which something turns.
func rightSums() []api.Wide {
	var out []api.Wide
	for _, high := range []int{-maxSum, -maxSum + 1, -maxSum + 2, -maxSum / 2, -1000000007, -9, -8, -3, -2, -1, 0, 1, 2, 3, 8, 9, 1000000007, maxSum / 2, topHigh - 2, topHigh - 1, topHigh} {
		for _, low := range []int{0, 1, 2, 3, 5, 7, 1 << 32, ten18/2 - 1, ten18 / 2, ten18/2 + 1, 123456789012345678, topLow - 6, topLow - 2, topLow - 1, topLow} {
			out = append(out, api.Wide{High: high, Low: low})
		}
	}
	return out
}

// wrongSums are sums that are not right, by one field or by both.
func wrongSums() []api.Wide {
	var out []api.Wide
	lows := []int{-1, -2, -ten18, math.MinInt, math.MinInt + 1, ten18, ten18 + 1, 2 * ten18, math.MaxInt}
	highs := []int{-maxSum - 1, -maxSum - 2, math.MinInt, math.MinInt + 1, maxSum, maxSum + 1, ten18, math.MaxInt}
	for _, low := range lows {
		for _, high := range []int{-maxSum, -1, 0, 1, topHigh} {
			out = append(out, api.Wide{High: high, Low: low})
		}
		for _, high := range highs {
			out = append(out, api.Wide{High: high, Low: low})
		}
	}
	for _, high := range highs {
		for _, low := range []int{0, 1, ten18 / 2, topLow} {
			out = append(out, api.Wide{High: high, Low: low})
		}
	}
	return out
}

// numbers are ints at which something turns, on both sides of 0, that fit.
func numbers() []int {
	out := []int{0}
	for _, n := range []int{1, 2, 3, 5, 7, 499999, 500000, 1000000, 1 << 32, 1 << 53, most/2 - 1, most / 2, most/2 + 1, 123456789012345678, most - 2, most - 1, most} {
		out = append(out, n, -n)
	}
	return out
}

// wrongNumbers do not fit.
func wrongNumbers() []int {
	return []int{most + 1, -most - 1, most + 1000000, -most - 1000000, 2 * most, -2 * most, math.MaxInt, math.MaxInt - 1, math.MinInt, math.MinInt + 1}
}

// counts are right ones.
func counts() []int {
	return []int{1, 2, 3, 4, 5, 7, 8, 9, 10, 11, 97, 1000, 1000000, 999999937, 1 << 30, 1<<30 + 1, maxSum - 2, maxSum - 1, maxSum}
}

// wrongCounts are not from 1 to MaxSum.
func wrongCounts() []int {
	return []int{0, -1, -2, -maxSum, math.MinInt, math.MinInt + 1, maxSum + 1, maxSum + 2, 2 * maxSum, math.MaxInt}
}

// scatter tells right sums and numbers that fit, of all lengths, the same ones each time.
func scatter(count int, told func(a, b api.Wide, n, count int)) {
	r := rand.New(rand.NewSource(5))
	wide := func() api.Wide {
		return api.Wide{High: r.Intn(2*maxSum)>>r.Intn(32) - maxSum>>r.Intn(32), Low: r.Intn(ten18) >> r.Intn(60)}
	}
	for range count {
		a, b := wide(), wide()
		if right(a) && right(b) {
			told(a, b, (r.Intn(most+1)>>r.Intn(60))*(1-2*r.Intn(2)), 1+r.Intn(maxSum)>>r.Intn(31))
		}
	}
}

type wideResult struct {
	w api.Wide
	e api.Errno
}

type intResult struct {
	n int
	e api.Errno
}

func asWide(w api.Wide, e api.Errno) wideResult { return wideResult{w, e} }

func asInt(n int, e api.Errno) intResult { return intResult{n, e} }

func wantAdd(w api.Wide, n int) wideResult {
	if !right(w) || !fits(n) {
		return wideResult{e: api.ErrArg}
	}
	return asWide(sum(new(big.Int).Add(amount(w), whole(n))))
}

func wantSub(w api.Wide, n int) wideResult {
	if !right(w) || !fits(n) {
		return wideResult{e: api.ErrArg}
	}
	return asWide(sum(new(big.Int).Sub(amount(w), whole(n))))
}

func wantJoin(a, b api.Wide) wideResult {
	if !right(a) || !right(b) {
		return wideResult{e: api.ErrArg}
	}
	return asWide(sum(new(big.Int).Add(amount(a), amount(b))))
}

func wantTotal(w api.Wide) intResult {
	if !right(w) {
		return intResult{e: api.ErrArg}
	}
	return asInt(number(amount(w)))
}

// wantMean rounds by the words of the chapter: the nearest whole number, of two the even one.
func wantMean(w api.Wide, count int) intResult {
	if !right(w) || count < 1 || count > maxSum {
		return intResult{e: api.ErrArg}
	}
	exact := new(big.Rat).SetFrac(amount(w), whole(count))
	low := new(big.Int).Div(exact.Num(), exact.Denom())
	left := new(big.Rat).Sub(exact, new(big.Rat).SetInt(low))
	side := left.Cmp(big.NewRat(1, 2))
	if side > 0 || side == 0 && low.Bit(0) == 1 {
		low.Add(low, whole(1))
	}
	return asInt(number(low))
}

func wantCompare(a, b api.Wide) intResult {
	if !right(a) || !right(b) {
		return intResult{e: api.ErrArg}
	}
	return intResult{n: amount(a).Cmp(amount(b))}
}

func TestOracle(t *testing.T) {
	for _, c := range []struct{ got, want any }{
		{wantAdd(api.Wide{}, ten18), wideResult{w: api.Wide{High: 1}}},
		{wantSub(api.Wide{}, 1), wideResult{w: api.Wide{High: -1, Low: topLow}}},
		{wantJoin(least(), greatest()), wideResult{w: api.Wide{High: -1, Low: topLow}}},
		{wantJoin(greatest(), api.Wide{Low: 1}), wideResult{e: api.ErrOver}},
		{wantTotal(api.Wide{High: -1, Low: topLow}), intResult{n: -1}},
		{wantTotal(api.Wide{High: 1, Low: 1}), intResult{e: api.ErrOver}},
		{wantMean(api.Wide{Low: 5}, 2), intResult{n: 2}},
		{wantMean(api.Wide{Low: 7}, 2), intResult{n: 4}},
		{wantMean(api.Wide{High: -1, Low: ten18 - 5}, 2), intResult{n: -2}},
		{wantMean(api.Wide{High: -1, Low: ten18 - 7}, 2), intResult{n: -4}},
		{wantCompare(api.Wide{High: -1, Low: 5}, api.Wide{}), intResult{n: -1}},
	} {
		if c.got != c.want {
			t.Errorf("the oracle tells %v, want %v", c.got, c.want)
		}
	}
}
