package maths

import (
	"foolscap/api"
	"foolscap/num"
)

// one and two are the numbers that a call is handed, all of which have to fit.
type (
	one [1]int
	two [2]int
)

// told tells what does makes of the numbers that are handed in, or why it makes nothing of them.
func told[H one | two | []int](handed H, does func(handed H) (int, api.Errno)) (int, api.Code) {
	for i := range len(handed) {
		if !num.Fits(handed[i]) {
			return 0, api.Range
		}
	}
	n, e := does(handed)
	if e == api.OK && !num.Fits(n) {
		e = api.ErrOver
	}
	if e != api.OK {
		return 0, code(e)
	}
	return n, api.None
}

// code tells an error as formulas show it.
func code(e api.Errno) api.Code {
	if e == api.ErrZero {
		return api.Div
	}
	return api.Range
}
