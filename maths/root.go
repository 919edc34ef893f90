package maths

import (
	"math/bits"

	"foolscap/api"
)

// mostRoot is the root of the greatest number that fits.
const mostRoot = api.Unit * api.Unit

// words is a number of two words, the high one first: the square of a root in millionths has up to 80 bits.
type words [2]uint64

// product tells an exact product.
func product(a, b int) words {
	high, low := bits.Mul64(uint64(a), uint64(b))
	return words{high, low}
}

// less tells whether w is less than v.
func (w words) less(v words) bool {
	if w[0] != v[0] {
		return w[0] < v[0]
	}
	return w[1] < v[1]
}

// root halves what lies between 0 and mostRoot until one number is left, the least one whose product with the next one is not less than the root's square. The square of what lies in the middle between those two is a quarter more than their product, so that no whole number is that square, and the nearest root is never one of two.
func root(handed one) (int, api.Errno) {
	n := handed[0]
	if n < 0 {
		return 0, api.ErrArg
	}
	square := product(n, api.Unit)
	low, high := 0, mostRoot
	for low < high {
		middle := (low + high) / 2
		if product(middle, middle+1).less(square) {
			low = middle + 1
		} else {
			high = middle
		}
	}
	return low, api.OK
}
