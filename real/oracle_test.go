package real

import (
	"math"
	"math/big"
	"math/rand"
	"testing"

	"foolscap/api"
)

// The tests hold the package against exact fractions and the library's own floats, which share no code with it.

const (
	unit = api.Unit
	most = api.MaxNum
	// same is how far numbers come back from their floats as they were.
	same = 8000000000000000

	leastFloat    = 0x1p-1074
	greatestTiny  = 0x1p-1022 - 0x1p-1074
	leastOrdinary = 0x1p-1022
)

func minusNought() float64 { return math.Copysign(0, -1) }

// noNumbers are floats that are no numbers, of either sign and with the first, the last, some and all bits of the fraction.
func noNumbers() []float64 {
	var out []float64
	for _, fraction := range []uint64{1, 2, 1 << 31, 1 << 50, 1 << 51, 1<<51 + 1, 1<<51 - 1, 0x123456789abcd, 1<<52 - 1} {
		out = append(out, math.Float64frombits(0x7ff<<52|fraction), math.Float64frombits(0xfff<<52|fraction))
	}
	return out
}

// around tells a float, those beside it, and all of them on the other side of 0.
func around(f float64) []float64 {
	below, above := math.Nextafter(f, math.Inf(-1)), math.Nextafter(f, math.Inf(1))
	return []float64{below, f, above, -below, -f, -above}
}

// finite are the floats at which something turns, on both sides of 0.
func finite() []float64 {
	out := []float64{0, minusNought(), math.MaxFloat64, -math.MaxFloat64}
	for _, f := range []float64{
		leastFloat, 2 * leastFloat, 0x1p-1040, greatestTiny, leastOrdinary, 0x1p-1000, 0x1p-128, 0x1p-127, 0x1p-101, 0x1p-100, 0x1p-99,
		0x1p-65, 0x1p-64, 0x1p-63, 0x1p-53, 0x1p-48, 0x1p-47, 0x1p-46, 0x1p-22, 0x1p-21, 0x1p-20, 1e-7, 4e-7, 0.0000005, 0.00000075, 0.000001, 0.0000015, 0.0000025,
		0.1, 0.25, 0.333333, 0.5, 1, 1.25, 2.5, 3, 1e6, 8e9, 0x1p33, 1e11, 1e12, 999999999999.9999, 1000000000000.0001,
		1e12 + 0x1p-13, 1e13, 1.2e13, 0x1p43, 1.8446744073709552e13, 0x1p44, 2e13, 0x1p51, 0x1p52, 0x1p53, 0x1p63, 0x1p64, 1e18, 1e24, 0x1p100, 0x1p972, 0x1p1023,
	} {
		out = append(out, around(f)...)
	}
	return append(out, middles()...)
}

// middles are floats just in the middle between two millionths, and those beside them: odd parts of 128, behind whole numbers of all lengths.
func middles() []float64 {
	var out []float64
	for _, whole := range []float64{0, 1, 2, 3, 1000, 123456, 0x1p33, 999999999, 87654321098, 999999999999} {
		for _, part := range []float64{1, 3, 5, 7, 63, 65, 125, 127} {
			out = append(out, around(whole+part/128)...)
		}
	}
	return out
}

// floats are all edges.
func floats() []float64 {
	out := append(noNumbers(), math.Inf(-1), math.Inf(1))
	return append(out, finite()...)
}

// scatteredFloats tells floats of all bits, and such that fit, the same ones each time.
func scatteredFloats(count int) []float64 {
	r := rand.New(rand.NewSource(2))
	out := make([]float64, 0, 2*count)
	for range count {
		out = append(out, math.Float64frombits(r.Uint64()))
		exponent := uint64(r.Intn(70) + 1023 - 28)
		out = append(out, math.Float64frombits(r.Uint64()&^(0x7ff<<52)|exponent<<52))
	}
	return out
}

// numbers are ints at which something turns, on both sides of 0; some of them do not fit.
func numbers() []int {
	out := []int{math.MinInt, math.MinInt + 1, math.MaxInt, math.MaxInt - 1, most + 1, -most - 1, most + unit, -most - unit}
	for _, n := range []int{0, 1000, unit / 2, unit, 1500000, 1 << 32, 1 << 52, 1 << 53, 1 << 54, same, 1 << 59, 123456789012345678, 333333333333333333, most / 2, most - 500} {
		for k := -500; k <= 500; k++ {
			out = append(out, n+k, -n-k)
		}
	}
	for p := 1; p <= most; p *= 2 {
		out = append(out, p-1, p, p+1, 1-p, -p, -p-1)
	}
	for p := 1; p <= most; p *= 10 {
		out = append(out, p-1, p, p+1, 1-p, -p, -p-1)
	}
	return out
}

// scatteredNumbers tells numbers that fit, of all lengths, the same ones each time.
func scatteredNumbers(count int) []int {
	r := rand.New(rand.NewSource(3))
	out := make([]int, count)
	for i := range out {
		out[i] = (r.Int() % (most + 1) >> r.Intn(60)) * (1 - 2*r.Intn(2))
	}
	return out
}

// nearMiddles tells numbers that are as near as may be to the middle between two floats, on both sides of it. (None is just in it: what is a fraction of twos among numbers is a whole number of parts of 64, and each of these is a float.)
func nearMiddles() []int {
	var out []int
	r := rand.New(rand.NewSource(4))
	for range 2000 {
		n := most - r.Intn(most-same)
		f := float64(n) / unit
		middle := new(big.Rat).Add(exact(f), exact(math.Nextafter(f, math.Inf(1))))
		middle.Mul(middle, big.NewRat(unit, 2))
		low := int(new(big.Int).Quo(middle.Num(), middle.Denom()).Int64())
		if low < most {
			out = append(out, low, low+1, -low, -low-1)
		}
	}
	return out
}

func exact(f float64) *big.Rat { return new(big.Rat).SetFloat64(f) }

func alike(a, b float64) bool { return math.Float64bits(a) == math.Float64bits(b) }

type number struct {
	n int
	e api.Errno
}

func gotOf(f float64) number {
	n, e := Of(f)
	return number{n, e}
}

// wantOf tells what Of has to tell, by the words of the chapter.
func wantOf(f float64) number {
	if math.IsNaN(f) || math.IsInf(f, 0) {
		return number{0, api.ErrArg}
	}
	scaled := exact(f)
	scaled.Mul(scaled, big.NewRat(unit, 1))
	low := new(big.Int).Div(scaled.Num(), scaled.Denom())
	left := new(big.Rat).Sub(scaled, new(big.Rat).SetInt(low))
	side := left.Cmp(big.NewRat(1, 2))
	if side > 0 || side == 0 && low.Bit(0) == 1 {
		low.Add(low, big.NewInt(1))
	}
	if low.CmpAbs(big.NewInt(most)) > 0 {
		return number{0, api.ErrOver}
	}
	return number{int(low.Int64()), api.OK}
}

// wantTo tells the float that To has to tell of a number that fits.
func wantTo(n int) float64 {
	f, _ := big.NewRat(int64(n), unit).Float64()
	return f
}

// wantLess tells the row by the words of the chapter.
func wantLess(a, b float64) bool {
	switch {
	case math.IsNaN(b):
		return false
	case math.IsNaN(a):
		return true
	case a == 0 && b == 0:
		return math.Signbit(a) && !math.Signbit(b)
	}
	return a < b
}

func TestOracle(t *testing.T) {
	for _, c := range []struct {
		f    float64
		want number
	}{
		{1.0 / 128, number{7812, api.OK}}, {3.0 / 128, number{23438, api.OK}}, {-1.0 / 128, number{-7812, api.OK}},
		{-3.0 / 128, number{-23438, api.OK}}, {1e13, number{0, api.ErrOver}}, {math.NaN(), number{0, api.ErrArg}},
	} {
		if got := wantOf(c.f); got != c.want {
			t.Errorf("the oracle tells %v of %v, want %v", got, c.f, c.want)
		}
	}
}
