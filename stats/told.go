package stats

import (
	"slices"

	"foolscap/api"
	"foolscap/num"
)

// told tells what does makes of the numbers of a list, if they may be handed in.
func told(l []int, does func(l []int) (int, api.Code)) (int, api.Code) {
	if !right(l) {
		return 0, api.Range
	}
	return does(l)
}

// right tells whether a list may be handed in.
func right(l []int) bool { return len(l) <= api.MaxArea && !slices.ContainsFunc(l, beyond) }

// beyond tells whether a number does not fit.
func beyond(n int) bool { return !num.Fits(n) }

// shown tells a number as formulas show it: what goes wrong with numbers that fit is that what they make does not.
func shown(n int, e api.Errno) (int, api.Code) {
	if e != api.OK {
		return 0, api.Range
	}
	return n, api.None
}
