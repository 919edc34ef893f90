package maths

import (
	"math"
	"testing"

	"foolscap/api"
)

// P15.1
func TestAbs(t *testing.T) {
	checkUnary(t, "Abs", Abs, []unaryCase{
		{0, 0, api.None}, {1, 1, api.None}, {-1, 1, api.None}, {-5, 5, api.None},
		{unit, unit, api.None}, {-unit, unit, api.None}, {unit + 1, unit + 1, api.None}, {-unit + 1, unit - 1, api.None},
		{most, most, api.None}, {-most, most, api.None}, {most - 1, most - 1, api.None}, {-most + 1, most - 1, api.None},
	})
	checkUnary(t, "Abs", Abs, refusedAlone())
	holdUnary(t, "Abs", Abs, wantAbs)
}

// P15.1
func TestSign(t *testing.T) {
	checkUnary(t, "Sign", Sign, []unaryCase{
		{0, 0, api.None}, {1, unit, api.None}, {-1, -unit, api.None}, {-5, -unit, api.None},
		{unit, unit, api.None}, {-unit, -unit, api.None}, {unit + 1, unit, api.None}, {unit - 1, unit, api.None},
		{most, unit, api.None}, {-most, -unit, api.None}, {most - 1, unit, api.None}, {-most + 1, -unit, api.None},
	})
	checkUnary(t, "Sign", Sign, refusedAlone())
	holdUnary(t, "Sign", Sign, wantSign)
}

// wrongPlaces are refused at any number.
func wrongPlaces() []binaryCase {
	var out []binaryCase
	for _, places := range []int{-13, 7, -14, 8, -12000000, unit, -1 << 32, 1 << 32, math.MinInt, math.MinInt + 6, math.MaxInt, math.MaxInt - 6} {
		for _, n := range []int{0, 1, -1, unit, most, -most, most + 1, math.MinInt, math.MaxInt} {
			out = append(out, binaryCase{n, places, 0, api.Range})
		}
	}
	return out
}

// wrongNumbers are refused at any places.
func wrongNumbers() []binaryCase {
	var out []binaryCase
	for _, n := range notFitting() {
		for places := -13; places <= 7; places++ {
			out = append(out, binaryCase{n, places, 0, api.Range})
		}
	}
	return out
}

// holdPlaces holds Up or Down against its second telling.
func holdPlaces(t *testing.T, name string, f binary, want func(n, places int) result) {
	t.Helper()
	numbers := append(edges(), scattered(3, 500)...)
	for _, places := range placesAsked() {
		for _, n := range numbers {
			if r, w := got(f(n, places)), want(n, places); r != w {
				t.Fatalf("%s(%d, %d) = %v; want %v", name, n, places, r, w)
			}
		}
	}
}

// P15.2
func TestUp(t *testing.T) {
	checkBinary(t, "Up", Up, []binaryCase{
		{2001000, 2, 2010000, api.None}, // the chapter's example
		{-2001000, 2, -2010000, api.None},
		{2010000, 2, 2010000, api.None},
		{0, 6, 0, api.None}, {0, 0, 0, api.None}, {0, -12, 0, api.None},
		{1, 6, 1, api.None}, {-1, 6, -1, api.None}, {1234567, 6, 1234567, api.None}, {most - 1, 6, most - 1, api.None},
		{1, 5, 10, api.None}, {-1, 5, -10, api.None}, {10, 5, 10, api.None}, {11, 5, 20, api.None}, {9, 5, 10, api.None},
		{1, 0, unit, api.None}, {-1, 0, -unit, api.None}, {unit, 0, unit, api.None}, {unit + 1, 0, 2 * unit, api.None}, {unit - 1, 0, unit, api.None},
		{-unit - 1, 0, -2 * unit, api.None}, {-unit + 1, 0, -unit, api.None},
		{21 * unit, -1, 30 * unit, api.None}, {-21 * unit, -1, -30 * unit, api.None},
		{1, -12, most, api.None}, {-1, -12, -most, api.None}, {most / 2, -12, most, api.None},
		{most, -12, most, api.None}, {-most, -12, -most, api.None}, {most, 6, most, api.None}, {most, 0, most, api.None},
		{most - 1, -12, most, api.None}, {most - 1, 5, most, api.None}, {-most + 1, 5, -most, api.None}, {most - 1, 0, most, api.None},
	})
	checkBinary(t, "Up", Up, wrongPlaces())
	checkBinary(t, "Up", Up, wrongNumbers())
	holdPlaces(t, "Up", Up, wantUp)
}

// P15.2: the greatest number is a multiple of each step, so that no number that fits goes too far.
func TestUpAlwaysFits(t *testing.T) {
	for places := -12; places <= 6; places++ {
		for back := range 30 {
			for _, n := range []int{most - back, -most + back, most - stepOf(places)/100*back, -most + stepOf(places)/100*back} {
				if r := got(Up(n, places)); r.c != api.None || r.n < -most || r.n > most {
					t.Errorf("Up(%d, %d) = %v", n, places, r)
				}
			}
		}
	}
}

// P15.2
func TestDown(t *testing.T) {
	checkBinary(t, "Down", Down, []binaryCase{
		{-2009000, 2, -2 * unit, api.None}, // the chapter's example
		{2009000, 2, 2 * unit, api.None},
		{0, 6, 0, api.None}, {0, 0, 0, api.None}, {0, -12, 0, api.None},
		{1, 6, 1, api.None}, {-1, 6, -1, api.None}, {1234567, 6, 1234567, api.None}, {-most + 1, 6, -most + 1, api.None},
		{9, 5, 0, api.None}, {-9, 5, 0, api.None}, {10, 5, 10, api.None}, {19, 5, 10, api.None}, {-19, 5, -10, api.None},
		{unit - 1, 0, 0, api.None}, {-unit + 1, 0, 0, api.None}, {unit, 0, unit, api.None}, {unit + 1, 0, unit, api.None}, {-unit - 1, 0, -unit, api.None},
		{29 * unit, -1, 20 * unit, api.None}, {-29 * unit, -1, -20 * unit, api.None},
		{most - 1, -12, 0, api.None}, {-most + 1, -12, 0, api.None}, {most, -12, most, api.None}, {-most, -12, -most, api.None},
		{most - 1, 0, most - unit, api.None}, {most, 6, most, api.None}, {most - 1, 5, most - 10, api.None},
		{1, 7, 0, api.Range},
	})
	checkBinary(t, "Down", Down, wrongPlaces())
	checkBinary(t, "Down", Down, wrongNumbers())
	holdPlaces(t, "Down", Down, wantDown)
}

// P15.2, P15.8: a multiple, and what lies one millionth beside it, for every decimal place on both sides of 0.
func TestBesideAPlace(t *testing.T) {
	for places := -12; places <= 5; places++ {
		step := stepOf(places)
		for k := range 20 {
			if k+1 > most/step {
				break
			}
			m := k * step
			checkBinary(t, "Up", Up, []binaryCase{
				{m, places, m, api.None}, {m + 1, places, m + step, api.None}, {m + step - 1, places, m + step, api.None},
				{-m, places, -m, api.None}, {-m - 1, places, -m - step, api.None}, {-m - step + 1, places, -m - step, api.None},
			})
			checkBinary(t, "Down", Down, []binaryCase{
				{m, places, m, api.None}, {m + 1, places, m, api.None}, {m + step - 1, places, m, api.None},
				{-m, places, -m, api.None}, {-m - 1, places, -m, api.None}, {-m - step + 1, places, -m, api.None},
			})
		}
	}
}

// P15.3
func TestEven(t *testing.T) {
	checkUnary(t, "Even", Even, []unaryCase{
		{2500000, 4 * unit, api.None}, // the chapter's example
		{0, 0, api.None}, {1, 2 * unit, api.None}, {-1, -2 * unit, api.None}, {unit, 2 * unit, api.None}, {-unit, -2 * unit, api.None},
		{unit - 1, 2 * unit, api.None}, {unit + 1, 2 * unit, api.None}, {-unit + 1, -2 * unit, api.None},
		{2 * unit, 2 * unit, api.None}, {2*unit + 1, 4 * unit, api.None}, {2*unit - 1, 2 * unit, api.None},
		{-2 * unit, -2 * unit, api.None}, {-2*unit - 1, -4 * unit, api.None}, {-2*unit + 1, -2 * unit, api.None},
		{3 * unit, 4 * unit, api.None}, {-3 * unit, -4 * unit, api.None},
		{most, most, api.None}, {-most, -most, api.None}, {most - 1, most, api.None}, {-most + 1, -most, api.None},
		{most - unit, most, api.None}, {most - 2*unit, most - 2*unit, api.None}, {most - 2*unit + 1, most, api.None}, {-most + 2*unit - 1, -most, api.None},
	})
	checkUnary(t, "Even", Even, refusedAlone())
	holdUnary(t, "Even", Even, wantEven)
}

// P15.3
func TestOdd(t *testing.T) {
	checkUnary(t, "Odd", Odd, []unaryCase{
		{-1500000, -3 * unit, api.None}, // the chapter's example
		{0, unit, api.None}, {1, unit, api.None}, {-1, -unit, api.None}, {unit, unit, api.None}, {-unit, -unit, api.None},
		{unit - 1, unit, api.None}, {unit + 1, 3 * unit, api.None}, {-unit + 1, -unit, api.None}, {-unit - 1, -3 * unit, api.None},
		{2 * unit, 3 * unit, api.None}, {-2 * unit, -3 * unit, api.None},
		{3 * unit, 3 * unit, api.None}, {3*unit + 1, 5 * unit, api.None}, {3*unit - 1, 3 * unit, api.None},
		{-3 * unit, -3 * unit, api.None}, {-3*unit - 1, -5 * unit, api.None}, {-3*unit + 1, -3 * unit, api.None},
		{most - unit, most - unit, api.None}, {most - unit - 1, most - unit, api.None}, {-most + unit, -most + unit, api.None},
		{most - unit + 1, 0, api.Range}, {-most + unit - 1, 0, api.Range},
		{most, 0, api.Range}, {-most, 0, api.Range}, {most - 1, 0, api.Range}, {-most + 1, 0, api.Range},
	})
	checkUnary(t, "Odd", Odd, refusedAlone())
	holdUnary(t, "Odd", Odd, wantOdd)
}

// P15.3: each whole number, and what lies one millionth beside it, on both sides of 0.
func TestBesideAWhole(t *testing.T) {
	for k := range 50 {
		even, odd := (k+k%2)*unit, (k+1-k%2)*unit
		nextEven, nextOdd := (k+2-k%2)*unit, (k+1+k%2)*unit
		checkUnary(t, "Even", Even, []unaryCase{
			{k * unit, even, api.None}, {-k * unit, -even, api.None}, {k*unit + 1, nextEven, api.None}, {-k*unit - 1, -nextEven, api.None},
		})
		checkUnary(t, "Odd", Odd, []unaryCase{
			{k * unit, odd, api.None}, {k*unit + 1, nextOdd, api.None}, {-k*unit - 1, -nextOdd, api.None}, {(k+1)*unit - 1, nextOdd, api.None},
		})
	}
}

// P15.4
func TestCeiling(t *testing.T) {
	checkBinary(t, "Ceiling", Ceiling, []binaryCase{
		{7 * unit, 5 * unit, 10 * unit, api.None}, // the chapter's examples
		{-7 * unit, 5 * unit, -5 * unit, api.None},
		{-7 * unit, -5 * unit, -5 * unit, api.None},
		{0, 5, 0, api.None}, {0, -5, 0, api.None}, {0, 0, 0, api.None}, {0, most, 0, api.None}, {0, -most, 0, api.None},
		{1, 0, 0, api.Div}, {-1, 0, 0, api.Div}, {most, 0, 0, api.Div}, {-most, 0, 0, api.Div},
		{1, -1, 0, api.Range}, {7 * unit, -5 * unit, 0, api.Range}, {most, -most, 0, api.Range}, {1, -most, 0, api.Range},
		{5, 1, 5, api.None}, {-5, 1, -5, api.None}, {-5, -1, -5, api.None}, {most, 1, most, api.None}, {-most, 1, -most, api.None}, {-most, -1, -most, api.None},
		{1, most, most, api.None}, {-1, most, 0, api.None}, {-1, -most, 0, api.None}, {most, most, most, api.None}, {-most, most, -most, api.None}, {-most, -most, -most, api.None},
		{10 * unit, 5 * unit, 10 * unit, api.None}, {10*unit + 1, 5 * unit, 15 * unit, api.None}, {10*unit - 1, 5 * unit, 10 * unit, api.None},
		{-10 * unit, 5 * unit, -10 * unit, api.None}, {-10*unit + 1, 5 * unit, -5 * unit, api.None}, {-10*unit - 1, 5 * unit, -10 * unit, api.None},
		{-10*unit + 1, -5 * unit, -5 * unit, api.None}, {-10*unit - 1, -5 * unit, -10 * unit, api.None},
		{2500000, 100000, 2500000, api.None}, {2500001, 100000, 2600000, api.None},
		{most - 1, most, most, api.None}, {most - 1, 3, most - 1, api.None}, {most - 1, 2, most, api.None}, {most - 3, most - 2, most - 2, api.None},
		{most, 3, 0, api.Range}, {most, most - 1, 0, api.Range}, {most - 1, most - 2, 0, api.Range}, {most/2 + 2, most/2 + 1, 0, api.Range},
		{-most, 3, -most + 1, api.None}, {-most, most - 1, -most + 1, api.None},
	})
	checkBinary(t, "Ceiling", Ceiling, refusedBeside())
	holdBinary(t, "Ceiling", Ceiling, wantCeiling)
}

// P15.4
func TestFloor(t *testing.T) {
	checkBinary(t, "Floor", Floor, []binaryCase{
		{-7 * unit, 5 * unit, -10 * unit, api.None}, // the chapter's example
		{-7 * unit, -5 * unit, -10 * unit, api.None},
		{7 * unit, 5 * unit, 5 * unit, api.None},
		{0, 5, 0, api.None}, {0, -5, 0, api.None}, {0, 0, 0, api.None}, {0, most, 0, api.None}, {0, -most, 0, api.None},
		{7 * unit, 0, 0, api.Div}, {1, 0, 0, api.Div}, {-1, 0, 0, api.Div}, {most, 0, 0, api.Div}, {-most, 0, 0, api.Div},
		{1, -1, 0, api.Range}, {7 * unit, -unit, 0, api.Range}, {most, -most, 0, api.Range}, {1, -most, 0, api.Range},
		{5, 1, 5, api.None}, {-5, 1, -5, api.None}, {-5, -1, -5, api.None}, {most, 1, most, api.None}, {-most, 1, -most, api.None}, {-most, -1, -most, api.None},
		{1, most, 0, api.None}, {-1, most, -most, api.None}, {-1, -most, -most, api.None}, {most, most, most, api.None}, {-most, most, -most, api.None}, {-most, -most, -most, api.None},
		{10 * unit, 5 * unit, 10 * unit, api.None}, {10*unit + 1, 5 * unit, 10 * unit, api.None}, {10*unit - 1, 5 * unit, 5 * unit, api.None},
		{-10 * unit, 5 * unit, -10 * unit, api.None}, {-10*unit + 1, 5 * unit, -10 * unit, api.None}, {-10*unit - 1, 5 * unit, -15 * unit, api.None},
		{-10*unit + 1, -5 * unit, -10 * unit, api.None}, {-10*unit - 1, -5 * unit, -15 * unit, api.None},
		{-most + 1, most, -most, api.None}, {-most + 1, 3, -most + 1, api.None}, {-most + 1, -3, -most + 1, api.None}, {-most + 1, 2, -most, api.None},
		{-most, 3, 0, api.Range}, {-most, -3, 0, api.Range}, {-most, most - 1, 0, api.Range}, {-most, -most + 1, 0, api.Range}, {-most/2 - 2, most/2 + 1, 0, api.Range},
		{most, 3, most - 1, api.None}, {most, most - 1, most - 1, api.None},
	})
	checkBinary(t, "Floor", Floor, refusedBeside())
	holdBinary(t, "Floor", Floor, wantFloor)
}

// P15.4: all small numbers and steps.
func TestSmallSteps(t *testing.T) {
	for n := -40; n <= 40; n++ {
		for step := -15; step <= 15; step++ {
			if r, w := got(Ceiling(n, step)), wantCeiling(n, step); r != w {
				t.Errorf("Ceiling(%d, %d) = %v; want %v", n, step, r, w)
			}
			if r, w := got(Floor(n, step)), wantFloor(n, step); r != w {
				t.Errorf("Floor(%d, %d) = %v; want %v", n, step, r, w)
			}
		}
	}
}

// P15.5
func TestQuotient(t *testing.T) {
	checkBinary(t, "Quotient", Quotient, []binaryCase{
		{7 * unit, 2 * unit, 3 * unit, api.None}, {-7 * unit, 2 * unit, -3 * unit, api.None}, {7 * unit, -2 * unit, -3 * unit, api.None}, {-7 * unit, -2 * unit, 3 * unit, api.None},
		{6 * unit, 2 * unit, 3 * unit, api.None}, {-6 * unit, 2 * unit, -3 * unit, api.None}, {6 * unit, -2 * unit, -3 * unit, api.None},
		{6*unit - 1, 2 * unit, 2 * unit, api.None}, {-6*unit + 1, 2 * unit, -2 * unit, api.None}, {6*unit - 1, -2 * unit, -2 * unit, api.None}, {-6*unit + 1, -2 * unit, 2 * unit, api.None},
		{6*unit + 1, 2 * unit, 3 * unit, api.None}, {-6*unit - 1, 2 * unit, -3 * unit, api.None},
		{5, 10, 0, api.None}, {-5, 10, 0, api.None}, {9, 10, 0, api.None}, {10, 10, unit, api.None}, {0, 5, 0, api.None}, {0, -most, 0, api.None},
		{1, 0, 0, api.Div}, {0, 0, 0, api.Div}, {-1, 0, 0, api.Div}, {most, 0, 0, api.Div}, {-most, 0, 0, api.Div},
		{1, 1, unit, api.None}, {5, 1, 5 * unit, api.None}, {-5, 1, -5 * unit, api.None}, {5, -1, -5 * unit, api.None}, {unit, 1, unit * unit, api.None},
		{unit * unit, 1, most, api.None}, {unit * unit, -1, -most, api.None}, {-unit * unit, 1, -most, api.None}, {-unit * unit, -1, most, api.None},
		{unit*unit + 1, 1, 0, api.Range}, {unit*unit + 1, -1, 0, api.Range}, {-unit*unit - 1, 1, 0, api.Range}, {unit*unit - 1, 1, most - unit, api.None},
		{2*unit*unit + 1, 2, most, api.None}, {2*unit*unit + 2, 2, 0, api.Range}, {-2*unit*unit - 1, 2, -most, api.None}, {-2*unit*unit - 2, 2, 0, api.Range},
		{most, unit, most, api.None}, {-most, unit, -most, api.None}, {most, -unit, -most, api.None}, {most, unit - 1, 0, api.Range}, {most, unit + 1, 999999000000 * unit, api.None},
		{most, 1, 0, api.Range}, {-most, 1, 0, api.Range}, {most, -1, 0, api.Range}, {-most, -1, 0, api.Range},
		{most, most, unit, api.None}, {most - 1, most, 0, api.None}, {-most, most, -unit, api.None}, {most, most - 1, unit, api.None}, {1, most, 0, api.None}, {-1, most, 0, api.None},
	})
	checkBinary(t, "Quotient", Quotient, refusedBeside())
	holdBinary(t, "Quotient", Quotient, wantQuotient)
}
