package stats

import (
	"slices"
	"testing"

	"foolscap/api"
)

// P16.1
func TestSum(t *testing.T) {
	check(t, "Sum", Sum, []listCase{
		{[]int{unit, 2 * unit}, number(3 * unit)}, // the chapter's example
		{nil, number(0)}, {[]int{}, number(0)},
		{[]int{0}, number(0)}, {[]int{1}, number(1)}, {[]int{-1}, number(-1)}, {[]int{most}, number(most)}, {[]int{-most}, number(-most)},
		{[]int{1, 2}, number(3)}, {[]int{1, -1}, number(0)}, {[]int{1, 2, 4}, number(7)}, {[]int{5, 5, 5}, number(15)},
		{[]int{most - 1, 1}, number(most)}, {[]int{most - 1, 2}, refused(api.Range)}, {[]int{most, 1}, refused(api.Range)}, {[]int{1, most}, refused(api.Range)},
		{[]int{-most + 1, -1}, number(-most)}, {[]int{-most + 1, -2}, refused(api.Range)}, {[]int{-most, -1}, refused(api.Range)}, {[]int{-1, -most}, refused(api.Range)},
		{[]int{most, most}, refused(api.Range)}, {[]int{-most, -most}, refused(api.Range)}, {[]int{most, -most}, number(0)},
		{[]int{most, 1, -1}, number(most)}, {[]int{most, most, -most}, number(most)}, {[]int{-most, -most, most}, number(-most)}, // the parts go too far
		{[]int{most, most, most, -most, -most, -most}, number(0)}, {[]int{-most, -1, 1, 5}, number(-most + 5)},
		{repeated(1, maxArea), number(maxArea)}, {repeated(most, maxArea), refused(api.Range)}, {repeated(-most, maxArea), refused(api.Range)},
		{slices.Concat(repeated(most, maxArea/2), repeated(-most, maxArea/2)), number(0)},
		{slices.Concat(repeated(most, maxArea/2), repeated(-most, maxArea/2-1), []int{-1}), number(most - 1)},
		{slices.Concat(repeated(-most, maxArea/2), repeated(most, maxArea/2-1), []int{-1}), refused(api.Range)},
		{repeated(most/maxArea, maxArea), number(most / maxArea * maxArea)},
		{repeated(1, maxArea+1), refused(api.Range)}, {repeated(0, maxArea+1), refused(api.Range)},
	})
}

// P16.1
func TestMean(t *testing.T) {
	check(t, "Mean", Mean, []listCase{
		{[]int{unit, 2 * unit}, number(1500000)}, // the chapter's example
		{nil, refused(api.Div)}, {[]int{}, refused(api.Div)},
		{[]int{0}, number(0)}, {[]int{1}, number(1)}, {[]int{-1}, number(-1)}, {[]int{most}, number(most)}, {[]int{-most}, number(-most)},
		{[]int{0, 1}, number(0)}, {[]int{1, 2}, number(2)}, {[]int{2, 3}, number(2)}, {[]int{3, 4}, number(4)}, // the middle, between an even one and an odd one
		{[]int{0, -1}, number(0)}, {[]int{-1, -2}, number(-2)}, {[]int{-2, -3}, number(-2)}, {[]int{-3, -4}, number(-4)},
		{[]int{0, 0, 1}, number(0)}, {[]int{0, 1, 1}, number(1)}, {[]int{0, 0, -1}, number(0)}, {[]int{0, -1, -1}, number(-1)},
		{[]int{0, 0, 0, 1}, number(0)}, {[]int{0, 0, 1, 1}, number(0)}, {[]int{0, 1, 1, 1}, number(1)}, {[]int{1, 1, 2, 2}, number(2)},
		{[]int{5, 5, 5}, number(5)}, {[]int{5, -5}, number(0)}, {[]int{1, 2, 6}, number(3)},
		{[]int{most, -most}, number(0)}, {[]int{most, -most, 3}, number(1)}, {[]int{most, -most + 1}, number(0)}, {[]int{most, -most + 3}, number(2)}, {[]int{most, -most, -1, -1}, number(0)},
		{[]int{most - 1, -most}, number(0)}, {[]int{most - 3, -most}, number(-2)},
		{[]int{most, most}, number(most)}, {[]int{-most, -most}, number(-most)}, {[]int{most, most - 1}, number(most)}, {[]int{most - 1, most - 2}, number(most - 2)}, {[]int{-most, -most + 1}, number(-most)}, {[]int{-most + 1, -most + 2}, number(-most + 2)},
		{repeated(most, maxArea), number(most)}, {repeated(-most, maxArea), number(-most)}, {repeated(7, maxArea), number(7)},
		{slices.Concat(repeated(1, maxArea/2), repeated(2, maxArea/2)), number(2)}, {slices.Concat(repeated(0, maxArea/2), repeated(1, maxArea/2)), number(0)},
		{slices.Concat(repeated(0, maxArea/2-1), repeated(1, maxArea/2+1)), number(1)}, {slices.Concat(repeated(1, maxArea/2+1), repeated(2, maxArea/2-1)), number(1)},
		{repeated(1, maxArea+1), refused(api.Range)}, {repeated(0, maxArea+1), refused(api.Range)},
	})
}

// P16.2
func TestProduct(t *testing.T) {
	check(t, "Product", Product, []listCase{
		{nil, number(0)}, {[]int{}, number(0)}, // the chapter's example
		{[]int{0}, number(0)}, {[]int{1}, number(1)}, {[]int{-1}, number(-1)}, {[]int{unit}, number(unit)}, {[]int{most}, number(most)}, {[]int{-most}, number(-most)},
		{[]int{2 * unit, 3 * unit}, number(6 * unit)}, {[]int{2 * unit, 3 * unit, 4 * unit}, number(24 * unit)}, {[]int{-2 * unit, 3 * unit}, number(-6 * unit)}, {[]int{-2 * unit, -3 * unit}, number(6 * unit)},
		{[]int{500000, 3}, number(2)}, {[]int{500000, 1}, number(0)}, {[]int{500000, 5}, number(2)}, {[]int{500000, -3}, number(-2)}, {[]int{-500000, -3}, number(2)}, // each is rounded to the even neighbour
		{[]int{1, 1}, number(0)}, {[]int{1, 1, most}, number(0)}, {[]int{1, most, 1}, number(unit)}, {[]int{1000, 1000, most}, number(unit * unit)}, // it becomes 0, or does not
		{[]int{1, 500000, most}, number(0)}, {[]int{1, most, 500000}, number(most / 2 / unit)}, {[]int{1, 500001, most}, number(unit * unit)},
		{[]int{3, 500000, 500000}, number(1)}, {[]int{500000, 500000, 3}, number(1)}, {[]int{5, 500000, 500000}, number(1)}, {[]int{7, 500000, 500000}, number(2)}, {[]int{500000, 500000, 7}, number(2)}, {[]int{500000, 500000, 5}, number(1)}, {[]int{500000, 500000, 2}, number(0)}, {[]int{3, 333333, 333333}, number(0)},
		{[]int{most, unit}, number(most)}, {[]int{most, unit + 1}, refused(api.Range)}, {[]int{most, unit - 1}, number(most - unit*unit)}, {[]int{-most, unit + 1}, refused(api.Range)}, {[]int{-most, -unit}, number(most)},
		{[]int{unit * unit, unit * unit}, number(most)}, {[]int{unit * unit, unit*unit + 1}, refused(api.Range)}, {[]int{unit*unit + 1, unit*unit - 1}, number(most)}, {[]int{unit * unit, -unit * unit}, number(-most)}, {[]int{most, most}, refused(api.Range)},
		{[]int{unit * unit, unit * unit, 2 * unit}, refused(api.Range)}, {[]int{unit * unit, unit * unit, 2 * unit, 0}, refused(api.Range)}, {[]int{0, unit * unit, unit * unit, 2 * unit}, number(0)}, // a later 0 is too late
		{[]int{most, 2 * unit, 500000}, refused(api.Range)}, {[]int{500000, 2 * unit, most}, number(most)}, {[]int{most, 500000, 2 * unit}, number(most)}, {[]int{most, most, 0}, refused(api.Range)}, {[]int{0, most, most}, number(0)}, {[]int{most, 0, most}, number(0)},
		{repeated(unit, maxArea), number(unit)}, {repeated(-unit, maxArea), number(unit)}, {repeated(-unit, maxArea-1), number(-unit)}, {repeated(2*unit, maxArea), refused(api.Range)}, {repeated(unit/2, maxArea), number(0)}, {repeated(2*unit, 39), number(549755813888 * unit)}, {repeated(2*unit, 40), refused(api.Range)},
		{repeated(unit, maxArea+1), refused(api.Range)}, {repeated(0, maxArea+1), refused(api.Range)},
	})
}

// P16.2
func TestSquares(t *testing.T) {
	check(t, "Squares", Squares, []listCase{
		{nil, number(0)}, {[]int{}, number(0)},
		{[]int{0}, number(0)}, {[]int{1}, number(0)}, {[]int{-1}, number(0)}, {[]int{unit}, number(unit)}, {[]int{-unit}, number(unit)}, {[]int{707}, number(0)}, {[]int{708}, number(1)}, {[]int{-708}, number(1)},
		{[]int{2 * unit, 3 * unit}, number(13 * unit)}, {[]int{-2 * unit, 3 * unit}, number(13 * unit)}, {[]int{unit, 2 * unit, 3 * unit}, number(14 * unit)}, {[]int{2 * unit, 2 * unit, 2 * unit}, number(12 * unit)},
		{repeated(707, maxArea), number(0)}, {repeated(708, maxArea), number(maxArea)}, // each is rounded by itself
		{[]int{unit * unit}, number(most)}, {[]int{-unit * unit}, number(most)}, {[]int{unit*unit + 1}, refused(api.Range)}, {[]int{-unit*unit - 1}, refused(api.Range)}, {[]int{unit*unit - 1}, number(most - 2*unit)}, {[]int{most}, refused(api.Range)}, {[]int{-most}, refused(api.Range)}, {[]int{0, most, 0}, refused(api.Range)},
		{[]int{unit * unit, 707}, number(most)}, {[]int{unit * unit, 708}, refused(api.Range)}, {[]int{708, unit * unit}, refused(api.Range)}, {[]int{unit * unit, unit * unit}, refused(api.Range)},
		{[]int{600000 * unit, 800000 * unit}, number(most)}, {[]int{600000 * unit, 800000 * unit, 708}, refused(api.Range)}, {[]int{600000 * unit, -800000*unit - 1}, refused(api.Range)}, {[]int{600000*unit + 1, 800000 * unit}, refused(api.Range)}, {[]int{600000 * unit, 800000*unit - 1}, number(most - 1600000)},
		{repeated(unit*unit/64, maxArea), number(most)}, {repeated(unit*unit/64+1, maxArea), refused(api.Range)}, {append(repeated(unit*unit/64, maxArea-1), unit*unit/64+1), refused(api.Range)}, {append(repeated(unit*unit/64, maxArea-1), unit*unit/64-1), number(most - 31250)},
		{repeated(unit, maxArea+1), refused(api.Range)}, {repeated(0, maxArea+1), refused(api.Range)},
	})
}

type dotCase struct {
	a, b []int
	want result
}

func checkDot(t *testing.T, cases []dotCase) {
	t.Helper()
	for _, c := range cases {
		if r := got(Dot(c.a, c.b)); r != c.want {
			t.Errorf("Dot(%v, %v) = %v; want %v", shortened(c.a), shortened(c.b), r, c.want)
		}
		if r := got(Dot(c.b, c.a)); r != c.want {
			t.Errorf("Dot(%v, %v) = %v; want %v", shortened(c.b), shortened(c.a), r, c.want)
		}
	}
}

// P16.2
func TestDot(t *testing.T) {
	ones := repeated(unit, maxArea)
	checkDot(t, []dotCase{
		{[]int{unit, 2 * unit}, []int{3 * unit, 4 * unit}, number(11 * unit)}, // the chapter's example
		{nil, nil, number(0)}, {nil, []int{}, number(0)}, {[]int{}, []int{}, number(0)},
		{nil, []int{unit}, refused(api.Wrong)}, {[]int{unit}, []int{unit, unit}, refused(api.Wrong)}, {[]int{unit, unit, unit}, []int{unit, unit}, refused(api.Wrong)}, {ones, ones[:maxArea-1], refused(api.Wrong)}, {nil, ones, refused(api.Wrong)}, {[]int{most}, []int{most, most}, refused(api.Wrong)},
		{[]int{0}, []int{most}, number(0)}, {[]int{1}, []int{unit}, number(1)}, {[]int{-1}, []int{unit}, number(-1)}, {[]int{unit}, []int{most}, number(most)}, {[]int{-unit}, []int{most}, number(-most)}, {[]int{-unit}, []int{-most}, number(most)},
		{[]int{3}, []int{500000}, number(2)}, {[]int{3, 3}, []int{500000, 500000}, number(4)}, {[]int{1, 1}, []int{500000, 500000}, number(0)}, {[]int{-3, 1}, []int{500000, 500000}, number(-2)}, // each product is rounded by itself
		{[]int{unit, 2 * unit, 3 * unit}, []int{4 * unit, 5 * unit, 6 * unit}, number(32 * unit)}, {[]int{unit, 2 * unit, 3 * unit}, []int{-4 * unit, 5 * unit, -6 * unit}, number(-12 * unit)},
		{[]int{unit, unit}, []int{most - 1, 1}, number(most)}, {[]int{unit, unit}, []int{most, 1}, refused(api.Range)}, {[]int{unit, unit}, []int{1, most}, refused(api.Range)}, {[]int{unit, unit}, []int{-most + 1, -1}, number(-most)}, {[]int{unit, unit}, []int{-most, -1}, refused(api.Range)}, {[]int{-unit, unit}, []int{most, -1}, refused(api.Range)},
		{[]int{unit, unit, unit}, []int{most, most, -most}, number(most)}, {[]int{unit, unit, -unit}, []int{-most, -most, -most}, number(-most)}, {[]int{unit, unit, unit}, []int{most, 1, -1}, number(most)}, // the parts go too far
		{[]int{unit + 1}, []int{most}, refused(api.Range)}, {[]int{unit + 1, -unit - 1}, []int{most, most}, refused(api.Range)}, {[]int{0, most}, []int{0, most}, refused(api.Range)}, {[]int{most, 0}, []int{-most, 0}, refused(api.Range)}, {[]int{unit, unit*unit + 1, unit}, []int{unit, unit * unit, unit}, refused(api.Range)},
		{ones, ones, number(maxArea * unit)}, {ones, repeated(most, maxArea), refused(api.Range)}, {slices.Concat(ones[:maxArea/2], repeated(-unit, maxArea/2)), repeated(most, maxArea), number(0)}, {repeated(1, maxArea), repeated(500000, maxArea), number(0)},
		{append(ones, 0), append(ones, 0), refused(api.Range)}, {append(ones, 0), ones, refused(api.Range)}, {append(ones, 0), nil, refused(api.Range)},
	})
}

// P16.2: a number that does not fit comes ahead of lists of two lengths, in either of them.
func TestDotOfNumbersThatDoNotFit(t *testing.T) {
	for _, n := range notFitting() {
		for _, other := range [][]int{nil, {0}, {unit}, {0, 0}, {unit, unit, unit}, {0, n, 0}, repeated(0, maxArea), repeated(0, maxArea+1)} {
			for _, l := range [][]int{{n}, {n, 0}, {0, n}, {0, n, 0}, {n, n, n}, {unit, 0, n}} {
				checkDot(t, []dotCase{{l, other, refused(api.Range)}})
			}
		}
	}
}

// P16.2
func TestDotAgainstTheSecondTelling(t *testing.T) {
	edges := fitting()
	for _, a := range edges {
		for _, b := range edges {
			for _, c := range edges {
				for _, d := range []int{0, 1, -1, 500000, unit, -unit, most, -most, most - 1, 1 - most} {
					if r, w := got(Dot([]int{a, b}, []int{c, d})), wantDot([]int{a, b}, []int{c, d}); r != w {
						t.Fatalf("Dot of %d, %d and %d, %d = %v; want %v", a, b, c, d, r, w)
					}
				}
			}
		}
	}
	as, bs := scattered(3, 5000, 12), scattered(4, 5000, 12)
	for i, a := range as {
		b := bs[i]
		if i%4 != 0 {
			a, b = a[:min(len(a), len(b))], b[:min(len(a), len(b))]
		}
		if r, w := got(Dot(a, b)), wantDot(a, b); r != w {
			t.Fatalf("Dot(%v, %v) = %v; want %v", a, b, r, w)
		}
	}
}
