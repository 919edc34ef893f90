package wide

import (
	"math/bits"

	"foolscap/api"
)

// base is what High counts.
const base = 1000000000000000000

// widened tells a number as a sum.
func widened(n int) api.Wide {
	high, low := parted(n, base)
	return api.Wide{High: high, Low: low}
}

// joined adds sums that are right: no field of such ones goes over an int when they are added.
func joined(a, b api.Wide) (api.Wide, api.Errno) {
	sum := widened(a.Low + b.Low)
	sum.High += a.High + b.High
	if Check(sum) != api.OK {
		return api.Wide{}, api.ErrOver
	}
	return sum, api.OK
}

// below tells whether a is less than b. Low never is below 0, so that High goes first on both sides of 0.
func below(a, b api.Wide) bool {
	return a.High < b.High || a.High == b.High && a.Low < b.Low
}

// nearest tells a sum divided by count, as the sum that is nearest, of two the even one. All is rounded down to begin with, so that sums below 0 need no sign; base is even, so that Low alone tells which neighbour is.
func nearest(w api.Wide, count int) api.Wide {
	high, left := parted(w.High, count)
	low, rest := divided(scaled(left, w.Low), count)
	if 2*rest > count || 2*rest == count && low%2 == 1 {
		low++
	}
	mean := widened(low)
	mean.High += high
	return mean
}

// words is a whole number of two words, the high one first: what is left of High, and Low, have up to 91 bits.
type words [2]uint64

// scaled tells high times base and low; neither is below 0.
func scaled(high, low int) words {
	over, under := bits.Mul64(uint64(high), base)
	under, carry := bits.Add64(under, uint64(low), 0)
	return words{over + carry, under}
}

// divided tells how often d is in n, and the rest. n is less than d times base, so that neither Div64 nor an int goes over.
func divided(n words, d int) (times, rest int) {
	q, r := bits.Div64(n[0], n[1], uint64(d))
	return int(q), int(r)
}

// parted tells n divided by a positive d, rounded down, and the rest, which is never below 0.
func parted(n, d int) (times, rest int) {
	times, rest = n/d, n%d
	if rest < 0 {
		return times - 1, rest + d
	}
	return times, rest
}
