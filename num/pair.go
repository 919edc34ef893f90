package num

import (
	"math/bits"

	"foolscap/api"
)

// Round takes places from leastPlaces to mostPlaces.
const (
	leastPlaces = -12
	mostPlaces  = 6
)

// pair is a number of two words, the high one first: a product of two numbers that fit has up to 120 bits.
type pair [2]uint64

// product tells an exact product.
func product(a, b uint64) pair {
	high, low := bits.Mul64(a, b)
	return pair{high, low}
}

// quotient tells what put makes of p divided by d, rounded half to even: put gives it its sign.
func quotient(p pair, d uint64, put func(rounded uint64) int) (int, api.Errno) {
	q, e := nearest(p, d)
	if e != api.OK {
		return 0, e
	}
	return fitted(put(q))
}

// nearest tells the whole number that is nearest to p divided by d, of two the even one. ErrOver is told ahead of rounding, because neither Div64 nor an addition to the greatest word bears a quotient that goes too far; rounding up may still come to MaxNum + 1.
func nearest(p pair, d uint64) (uint64, api.Errno) {
	if p[0] >= d {
		return 0, api.ErrOver
	}
	q, rest := bits.Div64(p[0], p[1], d)
	if q > api.MaxNum {
		return 0, api.ErrOver
	}
	if twice := 2 * rest; twice > d || twice == d && q%2 == 1 {
		q++
	}
	return q, api.OK
}

// size tells a number without its sign.
func size(n int) uint64 {
	if n < 0 {
		return uint64(-n)
	}
	return uint64(n)
}

// signed tells what puts a sign back to a size.
func signed(below bool) func(size uint64) int {
	return func(size uint64) int {
		if below {
			return -int(size)
		}
		return int(size)
	}
}

// tenTo tells a power of ten.
func tenTo(k int) uint64 {
	power := uint64(1)
	for range k {
		power *= 10
	}
	return power
}
