package real

import (
	"math"
	"math/bits"

	"foolscap/api"
)

// How a float's bits are laid: a sign, an exponent, a fraction whose leading bit is not written.
const (
	signBit      uint64 = 1 << 63
	fractionBits        = 52
	leadingBit   uint64 = 1 << fractionBits
	topExponent         = 2047
	// bias is what is taken from an exponent so that the fraction counts as a whole number.
	bias = 1075
)

const (
	// beyond is a power of two far above twice what a fraction times Unit comes to: all that is divided by it, or by a greater one, is nearest to 0.
	beyond = 100
	// scale makes a quotient by Unit longer than a fraction, and keeps it within a word.
	scale = 19
)

// parts is a float taken apart: size times 2 to the power. Both are 0 unless its kind is subnormal or ordinary.
type parts struct {
	kind  int
	below bool
	size  uint64
	power int
}

// words is a number of two words, the high one first.
type words [2]uint64

// apart takes a float apart by its bits.
func apart(f float64) parts {
	written := math.Float64bits(f)
	fraction := written & (leadingBit - 1)
	exponent := int(written>>fractionBits) & topExponent
	leading := leadingBit
	p := parts{kind: ordinary, below: written&signBit != 0}
	switch {
	case exponent == topExponent && fraction != 0:
		p.kind = notNumber
	case exponent == topExponent:
		p.kind = infinity
	case exponent == 0 && fraction == 0:
		p.kind = nought
	case exponent == 0:
		// Subnormal floats have no leading bit, and go on with the least exponent of the others.
		p.kind, leading, exponent = subnormal, 0, 1
		fallthrough
	default:
		p.size, p.power = leading|fraction, exponent-bias
	}
	return p
}

// millionths tells the size of a float in millionths, rounded half to even, and whether it fits.
func (p parts) millionths() (int, bool) {
	// No bit stands behind the point: it is at least 2^52.
	if p.power >= 0 {
		return 0, false
	}
	high, low := bits.Mul64(p.size, api.Unit)
	k := min(-p.power, beyond)
	quotient, left := divided(words{high, low}, k)
	// This is asked ahead of rounding, while nothing can wrap round: the float above MaxNum is 122 millionths away, so that rounding does not go beyond it.
	if quotient[0] != 0 || quotient[1] > api.MaxNum {
		return 0, false
	}
	return int(nearest(quotient[1], left, twoTo(k-1))), true
}

// nearestBits tells the bits of the float that is nearest to a size in millionths, which is not 0 and fits. No number that is not 0 is small enough for a subnormal float.
func nearestBits(size uint64) uint64 {
	up := bits.LeadingZeros64(size)
	size <<= up
	quotient, rest := bits.Div64(size>>(64-scale), size<<scale, api.Unit)
	k := bits.Len64(quotient) - fractionBits - 1
	left := words{quotient & (1<<k - 1), rest}
	rounded := nearest(quotient>>k, left, words{1 << (k - 1), 0})
	exponent := k - scale - up + bias
	// Where rounding made one bit more, the sum carries it into the exponent, and leaves a fraction of 0.
	return uint64(exponent)<<fractionBits + (rounded - leadingBit)
}

// divided tells w divided by 2^k, rounded down, and what is left; k is from 1 to 127.
func divided(w words, k int) (quotient, left words) {
	if k >= 64 {
		k -= 64
		return words{0, w[0] >> k}, words{w[0] & (1<<k - 1), w[1]}
	}
	return words{w[0] >> k, w[0]<<(64-k) | w[1]>>k}, words{0, w[1] & (1<<k - 1)}
}

// twoTo tells a power of two; k is from 0 to 127.
func twoTo(k int) words {
	if k >= 64 {
		return words{1 << (k - 64), 0}
	}
	return words{0, 1 << k}
}

// nearest rounds a quotient half to even, by what is left and what half of the divisor is.
func nearest(quotient uint64, left, half words) uint64 {
	if left == half {
		return quotient + quotient%2
	}
	if left[0] > half[0] || left[0] == half[0] && left[1] > half[1] {
		return quotient + 1
	}
	return quotient
}

// rank tells a float's place in the row of all of them: 0 of what is no number, and then by what they stand for.
func rank(f float64) uint64 {
	written := math.Float64bits(f)
	switch p := apart(f); {
	case p.kind == notNumber:
		return 0
	case p.below:
		return ^written
	}
	return written | signBit
}

// ranked tells the float at a place of the row that is not 0.
func ranked(place uint64) float64 {
	if place&signBit != 0 {
		return math.Float64frombits(place &^ signBit)
	}
	return math.Float64frombits(^place)
}
