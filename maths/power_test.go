package maths

import (
	"testing"

	"foolscap/api"
)

// P15.6
func TestPower(t *testing.T) {
	checkBinary(t, "Power", Power, []binaryCase{
		{2 * unit, 10 * unit, 1024 * unit, api.None}, // the chapter's examples
		{2 * unit, -unit, unit / 2, api.None},
		{-2 * unit, 3 * unit, -8 * unit, api.None}, {-2 * unit, -3 * unit, -125000, api.None}, {3 * unit, -unit, 333333, api.None}, {-3 * unit, -unit, -333333, api.None},
		{unit / 2, 10 * unit, 976, api.None}, // one after the other: the square of 0.03125 were 977
		{1500000, 3 * unit, 3375000, api.None},
		{10 * unit, 12 * unit, most, api.None}, {10 * unit, 13 * unit, 0, api.Range},
		{-10 * unit, 12 * unit, most, api.None}, {-10000 * unit, 3 * unit, -most, api.None}, {-10000*unit - 1, 3 * unit, 0, api.Range},
		{unit * unit, 2 * unit, most, api.None}, {unit*unit + 1, 2 * unit, 0, api.Range}, {-unit * unit, 2 * unit, most, api.None}, {unit*unit - 1, 2 * unit, most - 2*unit, api.None},
		{10 * unit, -12 * unit, 0, api.None}, {10 * unit, -6 * unit, 1, api.None}, {10 * unit, -7 * unit, 0, api.None}, {10 * unit, -13 * unit, 0, api.Range},
		{2 * unit, 39 * unit, 549755813888 * unit, api.None}, {2 * unit, 40 * unit, 0, api.Range}, {2 * unit, -40 * unit, 0, api.Range},
		{most, unit, most, api.None}, {-most, unit, -most, api.None}, {most, 2 * unit, 0, api.Range}, {-most, 2 * unit, 0, api.Range}, {most, -unit, 0, api.None}, {most, -2 * unit, 0, api.Range},
	})
	checkBinary(t, "Power", Power, refusedBeside())
	holdBinary(t, "Power", Power, wantPower)
}

// P15.6: the exponents at which something turns, at 0, 1, -1 and what is below 1 in size.
func TestPowerExponents(t *testing.T) {
	checkBinary(t, "Power", Power, []binaryCase{
		{0, 0, 0, api.Range}, {0, unit, 0, api.None}, {0, 1000 * unit, 0, api.None}, {0, -unit, 0, api.Div}, {0, -1000 * unit, 0, api.Div}, {0, 1001 * unit, 0, api.Range}, {0, -1001 * unit, 0, api.Range},
		{unit, 0, unit, api.None}, {unit, unit, unit, api.None}, {unit, -unit, unit, api.None}, {unit, 1000 * unit, unit, api.None}, {unit, -1000 * unit, unit, api.None},
		{-unit, 0, unit, api.None}, {-unit, unit, -unit, api.None}, {-unit, -unit, -unit, api.None}, {-unit, 1000 * unit, unit, api.None}, {-unit, 999 * unit, -unit, api.None}, {-unit, -1000 * unit, unit, api.None}, {-unit, -999 * unit, -unit, api.None},
		{1, 0, unit, api.None}, {-1, 0, unit, api.None}, {most, 0, unit, api.None}, {-most, 0, unit, api.None}, {5, 0, unit, api.None},
		{1, unit, 1, api.None}, {1, -unit, unit * unit, api.None}, {-1, -unit, -unit * unit, api.None}, {1, 2 * unit, 0, api.None}, {1, -2 * unit, 0, api.Div}, {1, 1000 * unit, 0, api.None}, {1, -1000 * unit, 0, api.Div},
		{unit / 2, 20 * unit, 1, api.None}, {unit / 2, 21 * unit, 0, api.None}, {unit / 2, -20 * unit, unit * unit, api.None}, {unit / 2, -21 * unit, 0, api.Div}, {unit / 2, 1000 * unit, 0, api.None}, {unit / 2, -1000 * unit, 0, api.Div},
		{-unit / 2, 20 * unit, 1, api.None}, {-unit / 2, 19 * unit, -2, api.None}, {-unit / 2, -19 * unit, -500000 * unit, api.None}, {-unit / 2, -21 * unit, 0, api.Div},
		{unit + 1, 1000 * unit, unit + 1000, api.None}, {unit - 1, 1000 * unit, unit - 1000, api.None},
	})
	for _, n := range []int{0, 1, -1, unit / 2, unit, -unit, 2 * unit, most, -most} {
		for _, k := range []int{1001 * unit, -1001 * unit, 1000*unit + 1, -1000*unit - 1, 1000*unit - 1, -1000*unit + 1, 1, -1, unit / 2, -unit / 2, unit - 1, unit + 1, -unit - 1, -unit + 1, 1500000, most, -most, most - 1, -most + 1} {
			checkBinary(t, "Power", Power, []binaryCase{{n, k, 0, api.Range}})
		}
	}
}

// P15.6: every exponent, at numbers that grow, shrink, stay, and change their signs.
func TestPowerOneByOne(t *testing.T) {
	numbers := append([]int{0, 1, -1, unit, -unit, unit + 1, unit - 1, -unit - 1, 1020000, -1020000, 1013911, 1028001, 980000, unit / 2, -unit / 2, 700000, 2 * unit, -3 * unit, 10 * unit}, scattered(4, 20)...)
	for _, n := range numbers {
		for k := -1001; k <= 1001; k += 1 + max(k, -k)/40 {
			if r, w := got(Power(n, k*unit)), wantPower(n, k*unit); r != w {
				t.Fatalf("Power(%d, %d) = %v; want %v", n, k, r, w)
			}
		}
	}
}

// P15.6
func TestRoot(t *testing.T) {
	checkUnary(t, "Root", Root, []unaryCase{
		{2 * unit, 1414214, api.None}, // the chapter's example
		{0, 0, api.None}, {1, 1000, api.None}, {2, 1414, api.None}, {3, 1732, api.None}, {4, 2000, api.None}, {5, 2236, api.None}, {10, 3162, api.None},
		{unit, unit, api.None}, {unit + 1, unit, api.None}, {unit - 1, unit - 1, api.None}, {unit + 2, unit + 1, api.None}, {unit - 2, unit - 1, api.None},
		{4 * unit, 2 * unit, api.None}, {4*unit + 1, 2 * unit, api.None}, {4*unit - 1, 2 * unit, api.None}, {4*unit + 3, 2*unit + 1, api.None}, {4*unit - 3, 2*unit - 1, api.None},
		{2250000, 1500000, api.None}, {100 * unit, 10 * unit, api.None},
		{11963, 109375, api.None}, {793212, 890624, api.None}, {793213, 890625, api.None}, // the exact roots' ends: 0.4999977, 0.4999997 and 0.56
		{most, unit * unit, api.None}, {most - 1, unit * unit, api.None}, {most - unit + 1, unit * unit, api.None}, {most - unit, unit*unit - 1, api.None}, {most - unit - 1, unit*unit - 1, api.None},
		{-1, 0, api.Range}, {-unit, 0, api.Range}, {-unit + 1, 0, api.Range}, {-most, 0, api.Range}, {-most + 1, 0, api.Range},
	})
	checkUnary(t, "Root", Root, refusedAlone())
	holdUnary(t, "Root", Root, wantRoot)
	for n := range 20000 {
		if r, w := got(Root(n)), wantRoot(n); r != w {
			t.Fatalf("Root(%d) = %v; want %v", n, r, w)
		}
	}
}

// P15.6: the squares of wholes and of thousandths, and what lies beside them.
func TestRootOfSquares(t *testing.T) {
	for _, root := range []int{1, 2, 3, 7, 10, 999, 1000, 1001, 31623, 999999, 1000000, 1000001, 123456789, 999999999, 1000000000} {
		square := root * root // of thousandths, in millionths
		checkUnary(t, "Root", Root, []unaryCase{{square, root * 1000, api.None}})
		for _, n := range []int{square - 1, square + 1} {
			if r, w := got(Root(n)), wantRoot(n); r != w {
				t.Errorf("Root(%d) = %v; want %v", n, r, w)
			}
		}
	}
}

// P15.6: in each pair the first number's exact root lies just below the middle between two roots, and the second one's above it.
func TestRootAtTheMiddle(t *testing.T) {
	for j := 1; j < unit; j += 1 + j/50 {
		middle := j*j*unit + j
		checkUnary(t, "Root", Root, []unaryCase{
			{middle, j * unit, api.None},
			{middle + 1, j*unit + 1, api.None},
			{j*j*unit - j, j*unit - 1, api.None},
			{j*j*unit - j + 1, j * unit, api.None},
		})
	}
}

// P15.6
func TestFact(t *testing.T) {
	checkUnary(t, "Fact", Fact, []unaryCase{
		{5 * unit, 120 * unit, api.None}, // the chapter's example
		{0, unit, api.None}, {1, unit, api.None}, {unit / 2, unit, api.None}, {unit - 1, unit, api.None}, {unit, unit, api.None}, {unit + 1, unit, api.None},
		{2*unit - 1, unit, api.None}, {2 * unit, 2 * unit, api.None}, {3 * unit, 6 * unit, api.None}, {5500000, 120 * unit, api.None}, {6*unit - 1, 120 * unit, api.None},
		{13 * unit, 6227020800 * unit, api.None}, {14 * unit, 87178291200 * unit, api.None}, {15*unit - 1, 87178291200 * unit, api.None},
		{15 * unit, 0, api.Range}, {15*unit + 1, 0, api.Range}, {16 * unit, 0, api.Range}, {21 * unit, 0, api.Range}, {66 * unit, 0, api.Range}, {1000 * unit, 0, api.Range},
		{most, 0, api.Range}, {most - 1, 0, api.Range},
		{-1, 0, api.Range}, {-unit, 0, api.Range}, {-unit + 1, 0, api.Range}, {-most, 0, api.Range}, {-most + 1, 0, api.Range},
	})
	checkUnary(t, "Fact", Fact, refusedAlone())
	holdUnary(t, "Fact", Fact, wantFact)
}
