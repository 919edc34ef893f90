package maths

import (
	"cmp"

	"foolscap/api"
	"foolscap/num"
)

// Up and Down take places from leastPlaces to mostPlaces.
const (
	leastPlaces = -12
	mostPlaces  = 6
)

// size tells a number without its sign.
func size(n int) int { return max(n, -n) }

// inwards tells the nearest multiple of step, which is above 0, that is not farther from 0 than n.
func inwards(n, step int) int { return n - n%step }

// outwards tells the nearest multiple of step, which is above 0, that is not nearer to 0 than n.
func outwards(n, step int) int {
	if n%step == 0 {
		return n
	}
	return inwards(n, step) + cmp.Compare(n, 0)*step
}

// upwards tells the nearest multiple of step, which is above 0, that is not below n.
func upwards(n, step int) int {
	if n < 0 {
		return inwards(n, step)
	}
	return outwards(n, step)
}

// downwards tells the nearest multiple of step, which is above 0, that is not above n.
func downwards(n, step int) int { return -upwards(-n, step) }

// wholePart tells what is left of a number without its fraction.
func wholePart(n int) int { return inwards(n, api.Unit) }

func unsigned(handed one) (int, api.Errno) { return size(handed[0]), api.OK }

func sign(handed one) (int, api.Errno) { return cmp.Compare(handed[0], 0) * api.Unit, api.OK }

// toPlaces tells what rounds a number to decimal places, the way that is handed in.
func toPlaces(places int, way func(n, step int) int) func(handed one) (int, api.Errno) {
	return func(handed one) (int, api.Errno) {
		if places < leastPlaces || places > mostPlaces {
			return 0, api.ErrArg
		}
		step := 1
		for range mostPlaces - places {
			step *= 10
		}
		return way(handed[0], step), api.OK
	}
}

// toStep tells what rounds a number to a multiple of another one, the way that is handed in.
func toStep(way func(n, step int) int) func(handed two) (int, api.Errno) {
	return func(handed two) (int, api.Errno) {
		n, step := handed[0], handed[1]
		switch {
		case n == 0:
			return 0, api.OK
		case step == 0:
			return 0, api.ErrZero
		case n > 0 && step < 0:
			return 0, api.ErrArg
		}
		return way(n, size(step)), api.OK
	}
}

func even(handed one) (int, api.Errno) { return outwards(handed[0], 2*api.Unit), api.OK }

// odd rounds to an even number and goes 1 on from there, having gone 1 towards 0 ahead of it; what has no sign goes to 1.
func odd(handed one) (int, api.Errno) {
	n := handed[0]
	rounded := outwards(max(size(n)-api.Unit, 0), 2*api.Unit) + api.Unit
	if n < 0 {
		return -rounded, api.OK
	}
	return rounded, api.OK
}

// quotient takes the exact quotient's whole part for millionths at first, and num.Mul makes them wholes, because they may go farther than an int does.
func quotient(handed two) (int, api.Errno) {
	a, b := handed[0], handed[1]
	if b == 0 {
		return 0, api.ErrZero
	}
	return num.Mul(a/b, api.Unit*api.Unit)
}
