package maths

import (
	"slices"

	"foolscap/api"
	"foolscap/num"
)

// folded goes through a list, each time with what the numbers ahead came to, up to the first error.
func folded(l []int, start int, with func(ahead, n int) (int, api.Errno)) (int, api.Errno) {
	ahead, e := start, api.OK
	for _, n := range l {
		if ahead, e = with(ahead, n); e != api.OK {
			return 0, e
		}
	}
	return ahead, api.OK
}

// below tells whether a number is below 0.
func below(n int) bool { return n < 0 }

// commonDivisor tells the greatest number that divides both, which are not below 0; it is whole if they are.
func commonDivisor(a, b int) int {
	for b != 0 {
		a, b = b, a%b
	}
	return a
}

func divisor(l []int) (int, api.Errno) {
	if slices.ContainsFunc(l, below) {
		return 0, api.ErrArg
	}
	return folded(l, 0, func(ahead, n int) (int, api.Errno) {
		return commonDivisor(ahead, wholePart(n)), api.OK
	})
}

// multiple looks for noughts ahead, because one of them makes 0 also of numbers that go too far without it.
func multiple(l []int) (int, api.Errno) {
	if slices.ContainsFunc(l, below) {
		return 0, api.ErrArg
	}
	if slices.ContainsFunc(l, func(n int) bool { return n < api.Unit }) {
		return 0, api.OK
	}
	return folded(l, api.Unit, func(ahead, n int) (int, api.Errno) {
		whole := wholePart(n)
		return num.Mul(ahead/commonDivisor(ahead, whole)*api.Unit, whole)
	})
}
