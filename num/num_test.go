package num

import (
	"math"
	"math/big"
	"testing"

	"foolscap/api"
)

type binary func(a, b int) (int, api.Errno)

type binaryCase struct {
	a, b, n int
	e       api.Errno
}

func checkCases(t *testing.T, name string, f binary, cases []binaryCase) {
	t.Helper()
	for _, c := range cases {
		if n, e := f(c.a, c.b); n != c.n || e != c.e {
			t.Errorf("%s(%d, %d) = %d, %d; want %d, %d", name, c.a, c.b, n, e, c.n, c.e)
		}
	}
}

func checkOracle(t *testing.T, name string, f binary, want func(a, b int) result) {
	t.Helper()
	for _, p := range pairs() {
		if r, w := got(f(p[0], p[1])), want(p[0], p[1]); r != w {
			t.Fatalf("%s(%d, %d) = %v; want %v", name, p[0], p[1], r, w)
		}
	}
}

// P1.1
func TestFits(t *testing.T) {
	for _, c := range []struct {
		n    int
		fits bool
	}{
		{0, true}, {1, true}, {-1, true}, {most, true}, {-most, true}, {most - 1, true}, {-most + 1, true},
		{most + 1, false}, {-most - 1, false}, {math.MaxInt, false}, {math.MinInt, false}, {math.MinInt + 1, false},
	} {
		if Fits(c.n) != c.fits {
			t.Errorf("Fits(%d) = %v", c.n, !c.fits)
		}
	}
}

// P1.1
func TestAdd(t *testing.T) {
	checkCases(t, "Add", Add, []binaryCase{
		{1, 2, 3, api.OK},
		{-5, 3, -2, api.OK},
		{most, -most, 0, api.OK},
		{most - 1, 1, most, api.OK},
		{-most + 1, -1, -most, api.OK},
		{most, 0, most, api.OK},
		{most, 1, 0, api.ErrOver},
		{-most, -1, 0, api.ErrOver},
		{most, most, 0, api.ErrOver},
		{-most, -most, 0, api.ErrOver},
		{most + 1, 0, 0, api.ErrArg},
		{0, -most - 1, 0, api.ErrArg},
		{most + 1, -2, 0, api.ErrArg},
		{most + 1, most, 0, api.ErrArg},
		{math.MinInt, math.MinInt, 0, api.ErrArg},
		{math.MaxInt, 1, 0, api.ErrArg},
		{math.MinInt, math.MaxInt, 0, api.ErrArg},
	})
	checkOracle(t, "Add", Add, wantAdd)
}

// P1.1
func TestSub(t *testing.T) {
	checkCases(t, "Sub", Sub, []binaryCase{
		{1, 2, -1, api.OK},
		{most, most, 0, api.OK},
		{-most, -most, 0, api.OK},
		{0, most, -most, api.OK},
		{0, -most, most, api.OK},
		{most, -1, 0, api.ErrOver},
		{-most, 1, 0, api.ErrOver},
		{most, -most, 0, api.ErrOver},
		{1, most + 1, 0, api.ErrArg},
		{most + 1, 1, 0, api.ErrArg},
		{0, math.MinInt, 0, api.ErrArg},
		{math.MinInt, math.MinInt, 0, api.ErrArg},
	})
	checkOracle(t, "Sub", Sub, wantSub)
}

// P1.2
func TestMul(t *testing.T) {
	checkCases(t, "Mul", Mul, []binaryCase{
		{2 * unit, 3 * unit, 6 * unit, api.OK},
		{-1500000, 2 * unit, -3 * unit, api.OK},
		{0, most, 0, api.OK},
		{500000, 3, 2, api.OK},
		{500000, 1, 0, api.OK},
		{500000, 5, 2, api.OK},
		{-500000, 3, -2, api.OK},
		{500000, -1, 0, api.OK},
		{-500000, -3, 2, api.OK},
		{500001, 1, 1, api.OK},
		{499999, 1, 0, api.OK},
		{most, unit, most, api.OK},
		{most, -unit, -most, api.OK},
		{1000000000000, 1000000000000, most, api.OK},
		{1332787, 750307438472914277, most, api.OK},    // MaxNum and 0.499999 millionths
		{1500000, 666666666666666667, most, api.OK},    // MaxNum and half a millionth
		{-1500000, 666666666666666667, -most, api.OK},  // the same below 0
		{1168249, 855981901118682747, 0, api.ErrOver},  // MaxNum and 0.500003 millionths
		{1168249, -855981901118682747, 0, api.ErrOver}, // the same below 0
		{20000654, 922307044245130765, 0, api.ErrOver}, // the greatest word, rounded up
		{1000000000001, 1000000000000, 0, api.ErrOver}, // MaxNum and a unit
		{most, unit + 1, 0, api.ErrOver},
		{most, most, 0, api.ErrOver}, // the greatest product
		{-most, most, 0, api.ErrOver},
		{most + 1, 0, 0, api.ErrArg},
		{0, -most - 1, 0, api.ErrArg},
		{math.MinInt, math.MinInt, 0, api.ErrArg},
		{math.MaxInt, most, 0, api.ErrArg},
	})
	checkOracle(t, "Mul", Mul, wantMul)
}

// P1.2
func TestDiv(t *testing.T) {
	checkCases(t, "Div", Div, []binaryCase{
		{6 * unit, 3 * unit, 2 * unit, api.OK},
		{unit, 3 * unit, 333333, api.OK},
		{2 * unit, 3 * unit, 666667, api.OK},
		{-unit, 3 * unit, -333333, api.OK},
		{1, 2 * unit, 0, api.OK},
		{3, 2 * unit, 2, api.OK},
		{5, 2 * unit, 2, api.OK},
		{-1, 2 * unit, 0, api.OK},
		{-3, 2 * unit, -2, api.OK},
		{3, -2 * unit, -2, api.OK},
		{-3, -2 * unit, 2, api.OK},
		{0, -most, 0, api.OK},
		{most, most, unit, api.OK},
		{-most, most, -unit, api.OK},
		{most, unit, most, api.OK},
		{-most, unit, -most, api.OK},
		{1, most, 0, api.OK},
		{most - 1, unit, most - 1, api.OK},
		{1000000000000, 1, most, api.OK},
		{1000000000001, 1, 0, api.ErrOver},
		{most, unit - 1, 0, api.ErrOver},
		{most, 1, 0, api.ErrOver},
		{most, -1, 0, api.ErrOver},
		{-most, 1, 0, api.ErrOver},
		{1, 0, 0, api.ErrZero},
		{0, 0, 0, api.ErrZero},
		{-most, 0, 0, api.ErrZero},
		{most + 1, 0, 0, api.ErrArg},
		{math.MinInt, 0, 0, api.ErrArg},
		{1, most + 1, 0, api.ErrArg},
		{math.MinInt, -1, 0, api.ErrArg},
		{most, math.MaxInt, 0, api.ErrArg},
	})
	checkOracle(t, "Div", Div, wantDiv)
}

// P1.3
func TestMod(t *testing.T) {
	checkCases(t, "Mod", Mod, []binaryCase{
		{7 * unit, 3 * unit, unit, api.OK},
		{-7 * unit, 3 * unit, 2 * unit, api.OK},
		{7 * unit, -3 * unit, -2 * unit, api.OK},
		{-7 * unit, -3 * unit, -unit, api.OK},
		{6 * unit, 3 * unit, 0, api.OK},
		{-6 * unit, 3 * unit, 0, api.OK},
		{6 * unit, -3 * unit, 0, api.OK},
		{5500000, 1200000, 700000, api.OK},
		{1, most, 1, api.OK},
		{-1, most, most - 1, api.OK},
		{1, -most, -most + 1, api.OK},
		{most, most, 0, api.OK},
		{-most, most, 0, api.OK},
		{most, -1, 0, api.OK},
		{most, 7, most % 7, api.OK},
		{0, -3, 0, api.OK},
		{1, 0, 0, api.ErrZero},
		{most + 1, 0, 0, api.ErrArg},
		{1, -most - 1, 0, api.ErrArg},
		{math.MinInt, -1, 0, api.ErrArg},
		{math.MinInt, 0, 0, api.ErrArg},
	})
	checkOracle(t, "Mod", Mod, wantMod)
}

// P1.3: what is left is 0 or of b's sign, and nearer to 0 than b.
func TestModLies(t *testing.T) {
	for _, p := range pairs() {
		n, e := Mod(p[0], p[1])
		if e != api.OK {
			continue
		}
		if n != 0 && (n < 0) != (p[1] < 0) || whole(n).CmpAbs(whole(p[1])) >= 0 {
			t.Fatalf("Mod(%d, %d) = %d", p[0], p[1], n)
		}
	}
}

// P1.4
func TestRound(t *testing.T) {
	checkCases(t, "Round", Round, []binaryCase{
		{2500000, 0, 2 * unit, api.OK},
		{3500000, 0, 4 * unit, api.OK},
		{-2500000, 0, -2 * unit, api.OK},
		{-3500000, 0, -4 * unit, api.OK},
		{2500001, 0, 3 * unit, api.OK},
		{2499999, 0, 2 * unit, api.OK},
		{500000, 0, 0, api.OK},
		{-500000, 0, 0, api.OK},
		{25 * unit, -1, 20 * unit, api.OK},
		{-25 * unit, -1, -20 * unit, api.OK},
		{35 * unit, -1, 40 * unit, api.OK},
		{1250 * unit, -2, 1200 * unit, api.OK},
		{1234567, 6, 1234567, api.OK},
		{1234565, 5, 1234560, api.OK},
		{1234575, 5, 1234580, api.OK},
		{1234567, 2, 1230000, api.OK},
		{most, 6, most, api.OK},
		{-most, -12, -most, api.OK},
		{most / 2, -12, 0, api.OK},
		{most/2 + 1, -12, most, api.OK},
		{-most/2 - 1, -12, -most, api.OK},
		{-most / 2, -12, 0, api.OK},
		{most - 1, -1, most, api.OK},
		{-most + 1, 5, -most, api.OK},
		{1, 7, 0, api.ErrArg},
		{1, -13, 0, api.ErrArg},
		{1, math.MinInt, 0, api.ErrArg},
		{1, math.MaxInt, 0, api.ErrArg},
		{most + 1, 6, 0, api.ErrArg},
		{-most - 1, -12, 0, api.ErrArg},
		{math.MinInt, 0, 0, api.ErrArg},
		{math.MaxInt, 7, 0, api.ErrArg},
	})
	places := []int{math.MinInt, math.MinInt + 6, math.MaxInt, 1 << 32}
	for p := -14; p <= 8; p++ {
		places = append(places, p)
	}
	for _, p := range places {
		for _, n := range append(edges(), scattered(500)...) {
			if r, w := got(Round(n, p)), wantRound(n, p); r != w {
				t.Fatalf("Round(%d, %d) = %v; want %v", n, p, r, w)
			}
		}
	}
}

// P1.4
func TestFloor(t *testing.T) {
	for _, c := range []struct {
		n, want int
		e       api.Errno
	}{
		{0, 0, api.OK}, {1, 0, api.OK}, {unit - 1, 0, api.OK}, {unit, unit, api.OK}, {unit + 1, unit, api.OK},
		{-1, -unit, api.OK}, {-unit, -unit, api.OK}, {-unit - 1, -2 * unit, api.OK},
		{most, most, api.OK}, {most - 1, most - unit, api.OK}, {-most, -most, api.OK}, {-most + 1, -most, api.OK},
		{most + 1, 0, api.ErrArg}, {-most - 1, 0, api.ErrArg}, {math.MinInt, 0, api.ErrArg}, {math.MaxInt, 0, api.ErrArg},
	} {
		if n, e := Floor(c.n); n != c.want || e != c.e {
			t.Errorf("Floor(%d) = %d, %d; want %d, %d", c.n, n, e, c.want, c.e)
		}
	}
	for _, n := range append(edges(), scattered(10000)...) {
		if r, w := got(Floor(n)), wantFloor(n); r != w {
			t.Fatalf("Floor(%d) = %v; want %v", n, r, w)
		}
	}
}

// P1.7: the middle between two neighbours, and what lies beside it, for every decimal place on both sides of 0.
func TestRoundHalves(t *testing.T) {
	for places := -12; places <= 5; places++ {
		step := stepOf(places)
		for k := -20; k < 20; k++ {
			middle := new(big.Int).Add(new(big.Int).Mul(whole(k), whole(step)), whole(step/2))
			if middle.CmpAbs(whole(most)) > 0 {
				continue
			}
			even := k
			if k%2 != 0 {
				even = k + 1
			}
			m := int(middle.Int64())
			checkCases(t, "Round", Round, []binaryCase{
				{m, places, even * step, api.OK},
				{m - 1, places, k * step, api.OK},
				{m + 1, places, (k + 1) * step, api.OK},
			})
		}
	}
}

// fair tells whether rounded is no farther from exact/by than a half, and even where it is just a half.
func fair(exact *big.Int, by, rounded int) bool {
	off := new(big.Int).Mul(whole(rounded), whole(by))
	off.Sub(exact, off).Mul(off, whole(2))
	side := off.CmpAbs(whole(by))
	return side < 0 || side == 0 && rounded%2 == 0
}

// P1.7
func TestFair(t *testing.T) {
	for _, p := range pairs() {
		a, b := p[0], p[1]
		if n, e := Mul(a, b); e == api.OK && !fair(new(big.Int).Mul(whole(a), whole(b)), unit, n) {
			t.Fatalf("Mul(%d, %d) = %d", a, b, n)
		}
		if n, e := Div(a, b); e == api.OK && !fair(new(big.Int).Mul(whole(a), whole(unit)), b, n) {
			t.Fatalf("Div(%d, %d) = %d", a, b, n)
		}
	}
	for places := -12; places <= 6; places++ {
		step := stepOf(places)
		for _, a := range append(edges(), scattered(2000)...) {
			if n, e := Round(a, places); e == api.OK && (n%step != 0 || !fair(whole(a), step, n/step)) {
				t.Fatalf("Round(%d, %d) = %d", a, places, n)
			}
		}
	}
}

// P1.7: halves of products and quotients on both sides of 0, from odd and from even neighbours.
func TestHalves(t *testing.T) {
	for k := range 1000 {
		even := k + k%2
		checkCases(t, "Mul", Mul, []binaryCase{
			{2*k + 1, unit / 2, even, api.OK},
			{-2*k - 1, unit / 2, -even, api.OK},
			{unit / 2, -2*k - 1, -even, api.OK},
			{-2*k - 1, -unit / 2, even, api.OK},
		})
		checkCases(t, "Div", Div, []binaryCase{
			{2*k + 1, 2 * unit, even, api.OK},
			{-2*k - 1, 2 * unit, -even, api.OK},
			{2*k + 1, -2 * unit, -even, api.OK},
			{-2*k - 1, -2 * unit, even, api.OK},
		})
	}
}

// P1.8
func TestLaws(t *testing.T) {
	for _, p := range pairs() {
		a, b := p[0], p[1]
		if got(Add(a, b)) != got(Add(b, a)) {
			t.Fatalf("Add(%d, %d) hangs on the order", a, b)
		}
		if got(Mul(a, b)) != got(Mul(b, a)) {
			t.Fatalf("Mul(%d, %d) hangs on the order", a, b)
		}
		if sum, e := Add(a, b); e == api.OK && (got(Sub(sum, b)) != result{a, api.OK} || got(Sub(sum, a)) != result{b, api.OK}) {
			t.Fatalf("Sub does not undo Add(%d, %d)", a, b)
		}
	}
	for _, n := range append(edges(), scattered(10000)...) {
		want := result{n, api.OK}
		if !inside(n) {
			want = result{0, api.ErrArg}
		}
		if got(Mul(n, unit)) != want || got(Mul(unit, n)) != want || got(Div(n, unit)) != want {
			t.Fatalf("1 times %d, or divided by 1, is something else", n)
		}
	}
}

// P1.8: three numbers come to one sum in any order, as long as it fits on the way.
func TestSumOrder(t *testing.T) {
	l := scattered(30000)
	for i := 0; i < len(l); i += 3 {
		a, b, c := l[i]/3, l[i+1]/3, l[i+2]/3
		ab, _ := Add(a, b)
		bc, _ := Add(b, c)
		if got(Add(ab, c)) != got(Add(a, bc)) {
			t.Fatalf("the sum of %d, %d and %d hangs on the order", a, b, c)
		}
	}
}
