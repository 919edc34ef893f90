// Package num is layer 1: numbers with six decimal places, rounded to the even neighbour. See shared/doc/01-num.md.
package num

import "foolscap/api"

// Fits tells whether a number fits: whether it is from -MaxNum to MaxNum.
func Fits(n int) bool { return -api.MaxNum <= n && n <= api.MaxNum }

// Add tells a sum.
func Add(a, b int) (int, api.Errno) {
	if !Fits(a) || !Fits(b) {
		return 0, api.ErrArg
	}
	return fitted(a + b)
}

// Sub tells a difference.
func Sub(a, b int) (int, api.Errno) {
	if !Fits(a) || !Fits(b) {
		return 0, api.ErrArg
	}
	return fitted(a - b)
}

// Mul tells a product, rounded to millionths.
func Mul(a, b int) (int, api.Errno) {
	if !Fits(a) || !Fits(b) {
		return 0, api.ErrArg
	}
	return quotient(product(size(a), size(b)), api.Unit, signed((a < 0) != (b < 0)))
}

// Div tells a quotient, rounded to millionths.
func Div(a, b int) (int, api.Errno) {
	if e := divisible(a, b); e != api.OK {
		return 0, e
	}
	return quotient(product(size(a), api.Unit), size(b), signed((a < 0) != (b < 0)))
}

// Mod tells what is left of a when b is taken from it as often as the quotient, rounded down, says.
func Mod(a, b int) (int, api.Errno) {
	if e := divisible(a, b); e != api.OK {
		return 0, e
	}
	return floorMod(a, b), api.OK
}

// Round rounds to decimal places; places below 0 are tens, hundreds and so on.
func Round(n, places int) (int, api.Errno) {
	if !Fits(n) || places < leastPlaces || places > mostPlaces {
		return 0, api.ErrArg
	}
	step, put := tenTo(mostPlaces-places), signed(n < 0)
	return quotient(pair{0, size(n)}, step, func(multiple uint64) int { return put(multiple * step) })
}

// Floor tells the greatest whole number that is not above n.
func Floor(n int) (int, api.Errno) {
	if !Fits(n) {
		return 0, api.ErrArg
	}
	return fitted(n - floorMod(n, api.Unit))
}

// fitted tells a result, or ErrOver. What its callers reckon of numbers that fit stays within an int, so that nothing has wrapped round.
func fitted(n int) (int, api.Errno) {
	if !Fits(n) {
		return 0, api.ErrOver
	}
	return n, api.OK
}

// divisible tells why a cannot be divided by b.
func divisible(a, b int) api.Errno {
	if !Fits(a) || !Fits(b) {
		return api.ErrArg
	}
	if b == 0 {
		return api.ErrZero
	}
	return api.OK
}

// floorMod is % with the sign of b, because % has the sign of a.
func floorMod(a, b int) int {
	rest := a % b
	if rest != 0 && (rest < 0) != (b < 0) {
		rest += b
	}
	return rest
}
