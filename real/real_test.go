package real

import (
	"math"
	"math/big"
	"slices"
	"strconv"
	"testing"

	"foolscap/api"
)

// P2.1
func TestKind(t *testing.T) {
	for _, f := range noNumbers() {
		if k := Kind(f); k != 0 {
			t.Errorf("Kind of bits %x = %d, want 0", math.Float64bits(f), k)
		}
	}
	for _, c := range []struct {
		f    float64
		kind int
	}{
		{math.Inf(1), 1}, {math.Inf(-1), 1},
		{0, 2}, {minusNought(), 2},
		{leastFloat, 3}, {-leastFloat, 3}, {0x1p-1023, 3}, {-0x1.8p-1030, 3}, {greatestTiny, 3}, {-greatestTiny, 3},
		{leastOrdinary, 4}, {-leastOrdinary, 4}, {1, 4}, {-2.5, 4}, {0x1p1023, 4}, {math.MaxFloat64, 4}, {-math.MaxFloat64, 4},
	} {
		if k := Kind(c.f); k != c.kind {
			t.Errorf("Kind(%g) = %d, want %d", c.f, k, c.kind)
		}
	}
}

// P2.1: each kind is told of every float, by its size alone.
func TestKindBySize(t *testing.T) {
	for _, f := range append(floats(), scatteredFloats(20000)...) {
		size, want := math.Abs(f), 4
		switch {
		case math.IsNaN(f):
			want = 0
		case math.IsInf(f, 0):
			want = 1
		case size == 0:
			want = 2
		case size < leastOrdinary:
			want = 3
		}
		if k := Kind(f); k != want {
			t.Fatalf("Kind(%g) = %d, want %d", f, k, want)
		}
	}
}

// P2.2
func TestOf(t *testing.T) {
	for _, c := range []struct {
		f float64
		n int
		e api.Errno
	}{
		{0.1, 100000, api.OK}, {2.5, 2500000, api.OK}, {-2.5, -2500000, api.OK}, {1, unit, api.OK}, {-1.25, -1250000, api.OK},
		{0, 0, api.OK}, {minusNought(), 0, api.OK},
		{0.0000005, 0, api.OK}, {0.0000015, 2, api.OK}, {-0.0000015, -2, api.OK}, {0.00000075, 1, api.OK}, {0.0000004, 0, api.OK},
		{leastFloat, 0, api.OK}, {-leastFloat, 0, api.OK}, {greatestTiny, 0, api.OK}, {leastOrdinary, 0, api.OK}, {-leastOrdinary, 0, api.OK},
		{1.0 / 128, 7812, api.OK}, {-1.0 / 128, -7812, api.OK}, {3.0 / 128, 23438, api.OK}, {-3.0 / 128, -23438, api.OK},
		{math.Nextafter(1.0/128, 1), 7813, api.OK}, {math.Nextafter(1.0/128, 0), 7812, api.OK},
		{math.Nextafter(3.0/128, 1), 23438, api.OK}, {math.Nextafter(3.0/128, 0), 23437, api.OK},
		{-math.Nextafter(1.0/128, 1), -7813, api.OK}, {-math.Nextafter(3.0/128, 0), -23437, api.OK},
		{1e12, most, api.OK}, {-1e12, -most, api.OK},
		{math.Nextafter(1e12, 0), most - 122, api.OK}, {-math.Nextafter(1e12, 0), -most + 122, api.OK},
		{math.Nextafter(1e12, 2e12), 0, api.ErrOver}, {-math.Nextafter(1e12, 2e12), 0, api.ErrOver},
		{1e13, 0, api.ErrOver}, {-1e13, 0, api.ErrOver}, {0x1p52, 0, api.ErrOver}, {0x1p53, 0, api.ErrOver}, {0x1p64, 0, api.ErrOver},
		{math.MaxFloat64, 0, api.ErrOver}, {-math.MaxFloat64, 0, api.ErrOver},
		{math.Inf(1), 0, api.ErrArg}, {math.Inf(-1), 0, api.ErrArg},
	} {
		if got := gotOf(c.f); got != (number{c.n, c.e}) {
			t.Errorf("Of(%g) = %v; want %d, %d", c.f, got, c.n, c.e)
		}
	}
	for _, f := range noNumbers() {
		if got := gotOf(f); got != (number{0, api.ErrArg}) {
			t.Errorf("Of of bits %x = %v; want ErrArg", math.Float64bits(f), got)
		}
	}
}

// P2.2: against exact fractions.
func TestOfOracle(t *testing.T) {
	for _, f := range append(floats(), scatteredFloats(20000)...) {
		if got, want := gotOf(f), wantOf(f); got != want {
			t.Fatalf("Of(%g) = %v, want %v", f, got, want)
		}
	}
}

// P2.3
func TestTo(t *testing.T) {
	for _, c := range []struct {
		n int
		f float64
		e api.Errno
	}{
		{0, 0, api.OK}, {1, 1e-6, api.OK}, {-1, -1e-6, api.OK}, {100000, 0.1, api.OK}, {333333, 0.333333, api.OK}, {unit, 1, api.OK}, {-2500000, -2.5, api.OK},
		{same, 8e9, api.OK}, {-same, -8e9, api.OK}, {same + 1, 8000000000.000001, api.OK}, {same - 1, 7999999999.999999, api.OK},
		{123456789012345678, 123456789012.345678, api.OK}, {-123456789012345678, -123456789012.345678, api.OK},
		{most, 1e12, api.OK}, {-most, -1e12, api.OK}, {most - 1, 1e12, api.OK}, {most - 61, 1e12, api.OK}, {most - 62, 1e12 - 0x1p-13, api.OK},
		{61 - most, -1e12, api.OK}, {62 - most, 0x1p-13 - 1e12, api.OK},
		{most + 1, 0, api.ErrArg}, {-most - 1, 0, api.ErrArg}, {math.MaxInt, 0, api.ErrArg}, {math.MinInt, 0, api.ErrArg}, {math.MinInt + 1, 0, api.ErrArg},
	} {
		if f, e := To(c.n); !alike(f, c.f) || e != c.e {
			t.Errorf("To(%d) = %v, %d; want %v, %d", c.n, f, e, c.f, c.e)
		}
	}
}

// P2.3: against exact fractions, and against what the library reads out of a text.
func TestToOracle(t *testing.T) {
	for _, n := range slices.Concat(numbers(), scatteredNumbers(20000), nearMiddles()) {
		f, e := To(n)
		if n < -most || n > most {
			if !alike(f, 0) || e != api.ErrArg {
				t.Fatalf("To(%d) = %v, %d; want ErrArg", n, f, e)
			}
			continue
		}
		read, _ := strconv.ParseFloat(strconv.Itoa(n)+"e-6", 64)
		if want := wantTo(n); !alike(f, want) || !alike(f, read) || e != api.OK {
			t.Fatalf("To(%d) = %v, %d; want %v", n, f, e, want)
		}
	}
}

// P2.3: no float beside the one that is told is as near.
func TestToNearest(t *testing.T) {
	for _, n := range slices.Concat(scatteredNumbers(3000), nearMiddles()) {
		f, _ := To(n)
		want := big.NewRat(int64(n), unit)
		off := func(g float64) *big.Rat {
			d := new(big.Rat).Sub(exact(g), want)
			return d.Abs(d)
		}
		for _, g := range []float64{math.Nextafter(f, math.Inf(1)), math.Nextafter(f, math.Inf(-1))} {
			if off(f).Cmp(off(g)) >= 0 {
				t.Fatalf("To(%d) = %v, but %v is as near", n, f, g)
			}
		}
	}
}

// P2.4
func TestLess(t *testing.T) {
	for _, c := range []struct {
		a, b float64
		less bool
	}{
		{1, 2, true}, {2, 1, false}, {1, 1, false}, {-2, -1, true}, {-1, -2, false}, {-1, 1, true}, {1, -1, false},
		{minusNought(), 0, true}, {0, minusNought(), false}, {0, 0, false}, {minusNought(), minusNought(), false},
		{-leastFloat, minusNought(), true}, {0, leastFloat, true}, {leastFloat, 0, false}, {greatestTiny, leastOrdinary, true},
		{math.Inf(-1), -math.MaxFloat64, true}, {-math.MaxFloat64, math.Inf(-1), false}, {math.Inf(-1), math.Inf(-1), false},
		{math.MaxFloat64, math.Inf(1), true}, {math.Inf(1), math.MaxFloat64, false}, {math.Inf(1), math.Inf(1), false}, {math.Inf(-1), math.Inf(1), true},
	} {
		if Less(c.a, c.b) != c.less {
			t.Errorf("Less(%g, %g) = %v", c.a, c.b, !c.less)
		}
	}
	for _, f := range noNumbers() {
		for _, g := range noNumbers() {
			if Less(f, g) {
				t.Errorf("Less of bits %x and %x, which both are no numbers", math.Float64bits(f), math.Float64bits(g))
			}
		}
		for _, g := range []float64{math.Inf(-1), -1, minusNought(), 0, leastFloat, math.Inf(1)} {
			if !Less(f, g) || Less(g, f) {
				t.Errorf("bits %x, which are no number, do not stand ahead of %g", math.Float64bits(f), g)
			}
		}
	}
}

// P2.4: every pair of edges, by the words of the chapter.
func TestLessOracle(t *testing.T) {
	l := append(floats(), scatteredFloats(200)...)
	for _, a := range l {
		for _, b := range l {
			if got := Less(a, b); got != wantLess(a, b) {
				t.Fatalf("Less(%g, %g) = %v", a, b, got)
			}
		}
	}
}

// P2.5
func TestNext(t *testing.T) {
	for _, c := range []struct {
		f, next float64
		e       api.Errno
	}{
		{1, 1.0000000000000002, api.OK}, {-1, -0.9999999999999999, api.OK}, {2, 2.0000000000000004, api.OK}, {math.Nextafter(2, 1), 2, api.OK},
		{0, leastFloat, api.OK}, {minusNought(), leastFloat, api.OK}, {-leastFloat, minusNought(), api.OK}, {leastFloat, 2 * leastFloat, api.OK},
		{greatestTiny, leastOrdinary, api.OK}, {-leastOrdinary, -greatestTiny, api.OK}, {-2 * leastFloat, -leastFloat, api.OK},
		{math.Inf(-1), -math.MaxFloat64, api.OK}, {math.MaxFloat64, math.Inf(1), api.OK}, {-math.MaxFloat64, -0x1.ffffffffffffep1023, api.OK},
		{math.Inf(1), 0, api.ErrArg},
	} {
		if next, e := Next(c.f); !alike(next, c.next) || e != c.e {
			t.Errorf("Next(%g) = %g, %d; want %g, %d", c.f, next, e, c.next, c.e)
		}
	}
	for _, f := range noNumbers() {
		if next, e := Next(f); !alike(next, 0) || e != api.ErrArg {
			t.Errorf("Next of bits %x = %g, %d; want ErrArg", math.Float64bits(f), next, e)
		}
	}
}

// P2.5: against the library's own neighbours.
func TestNextOracle(t *testing.T) {
	for _, f := range append(finite(), scatteredFloats(20000)...) {
		if math.IsNaN(f) || math.IsInf(f, 1) {
			continue
		}
		next, e := Next(f)
		if want := math.Nextafter(f, math.Inf(1)); !alike(next, want) || e != api.OK {
			t.Fatalf("Next(%g) = %g, %d; want %g", f, next, e, want)
		}
	}
}

// P2.6
func TestBack(t *testing.T) {
	for _, n := range append(numbers(), scatteredNumbers(50000)...) {
		if n < -same || n > same {
			continue
		}
		f, e := To(n)
		if got := gotOf(f); got != (number{n, api.OK}) || e != api.OK {
			t.Fatalf("Of(To(%d)) = %v", n, got)
		}
	}
	for k := range 2000 {
		for _, n := range []int{same - k, k - same} {
			f, _ := To(n)
			if got := gotOf(f); got != (number{n, api.OK}) {
				t.Fatalf("Of(To(%d)) = %v", n, got)
			}
		}
	}
}

// P2.7: greater floats have no lower number.
func TestFloatsRise(t *testing.T) {
	l := append(finite(), scatteredFloats(20000)...)
	l = slices.DeleteFunc(l, func(f float64) bool { return gotOf(f).e != api.OK })
	slices.Sort(l)
	for i := 1; i < len(l); i++ {
		if a, b := gotOf(l[i-1]), gotOf(l[i]); a.n > b.n {
			t.Fatalf("Of(%g) = %d, Of(%g) = %d", l[i-1], a.n, l[i], b.n)
		}
	}
}

// P2.7: greater numbers have no lower float.
func TestNumbersRise(t *testing.T) {
	l := slices.Concat(numbers(), scatteredNumbers(20000), nearMiddles())
	l = slices.DeleteFunc(l, func(n int) bool { return n < -most || n > most })
	slices.Sort(l)
	for i := 1; i < len(l); i++ {
		a, _ := To(l[i-1])
		b, _ := To(l[i])
		if a > b {
			t.Fatalf("To(%d) = %g, To(%d) = %g", l[i-1], a, l[i], b)
		}
	}
}

// P2.8: of two that are not alike one is below the other one, but for those that are not numbers; and what is sorted by Less stands in a row.
func TestRow(t *testing.T) {
	l := append(floats(), scatteredFloats(200)...)
	for _, a := range l {
		for _, b := range l {
			apart := !alike(a, b) && !(math.IsNaN(a) && math.IsNaN(b))
			if up, down := Less(a, b), Less(b, a); up && down || (up || down) != apart {
				t.Fatalf("Less(%g, %g) = %v, Less(%g, %g) = %v", a, b, up, b, a, down)
			}
		}
	}
	slices.SortFunc(l, func(a, b float64) int {
		switch {
		case Less(a, b):
			return -1
		case Less(b, a):
			return 1
		}
		return 0
	})
	for i, a := range l {
		for _, b := range l[i:] {
			if Less(b, a) {
				t.Fatalf("%g stands behind %g", b, a)
			}
		}
	}
}

// P2.8: between a float and its Next there is none, by what they stand for: their bits are neighbours, but for the noughts.
func TestNoneBetween(t *testing.T) {
	all := floats()
	for _, f := range append(floats(), scatteredFloats(500)...) {
		next, e := Next(f)
		if e != api.OK {
			continue
		}
		if !Less(f, next) || next <= f {
			t.Fatalf("Next(%g) = %g is not above it", f, next)
		}
		for _, g := range all {
			if f < g && g < next {
				t.Fatalf("%g is between %g and its Next %g", g, f, next)
			}
			if f != 0 && Less(f, g) && Less(g, next) {
				t.Fatalf("%g is in the row between %g and its Next %g", g, f, next)
			}
		}
	}
}
