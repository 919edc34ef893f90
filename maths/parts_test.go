package maths

import (
	"math"
	"slices"
	"testing"

	"foolscap/api"
)

// P15.7
func TestGcd(t *testing.T) {
	checkListed(t, "Gcd", Gcd, []listCase{
		{[]int{12 * unit, 18 * unit}, 6 * unit, api.None}, // the chapter's example
		{nil, 0, api.None}, {[]int{}, 0, api.None},
		{[]int{0}, 0, api.None}, {[]int{0, 0, 0}, 0, api.None}, {[]int{1}, 0, api.None}, {[]int{unit - 1, 0, 1}, 0, api.None},
		{[]int{unit}, unit, api.None}, {[]int{unit + 1}, unit, api.None}, {[]int{7 * unit}, 7 * unit, api.None}, {[]int{7999999}, 7 * unit, api.None},
		{[]int{most}, most, api.None}, {[]int{most - 1}, most - unit, api.None}, {[]int{most, most}, most, api.None}, {[]int{most, 0}, most, api.None},
		{[]int{0, 12 * unit}, 12 * unit, api.None}, {[]int{12 * unit, 0, 18 * unit}, 6 * unit, api.None}, {[]int{12 * unit, 18 * unit, 0}, 6 * unit, api.None},
		{[]int{12 * unit, 500000, 18 * unit}, 6 * unit, api.None}, {[]int{12999999, 18500000}, 6 * unit, api.None},
		{[]int{18 * unit, 12 * unit}, 6 * unit, api.None}, {[]int{6 * unit, 35 * unit}, unit, api.None}, {[]int{6 * unit, 10 * unit, 15 * unit}, unit, api.None},
		{[]int{most, most - unit}, unit, api.None}, {[]int{most, 4096 * unit, 64 * unit}, 64 * unit, api.None},
		{[]int{60 * unit, 84 * unit, 108 * unit, 24 * unit, 36 * unit}, 12 * unit, api.None},
		{[]int{-1}, 0, api.Range}, {[]int{-unit}, 0, api.Range}, {[]int{-most}, 0, api.Range},
	})
}

// P15.7
func TestLcm(t *testing.T) {
	checkListed(t, "Lcm", Lcm, []listCase{
		{[]int{4 * unit, 6 * unit}, 12 * unit, api.None}, // the chapter's example
		{nil, unit, api.None}, {[]int{}, unit, api.None},
		{[]int{0}, 0, api.None}, {[]int{0, 0, 0}, 0, api.None}, {[]int{1}, 0, api.None}, {[]int{unit - 1}, 0, api.None},
		{[]int{unit}, unit, api.None}, {[]int{unit + 1}, unit, api.None}, {[]int{7 * unit}, 7 * unit, api.None}, {[]int{7999999}, 7 * unit, api.None},
		{[]int{0, 4 * unit}, 0, api.None}, {[]int{4 * unit, 0, 6 * unit}, 0, api.None}, {[]int{4 * unit, 6 * unit, 0}, 0, api.None}, {[]int{4 * unit, 500000, 6 * unit}, 0, api.None},
		{[]int{4 * unit, 6500000}, 12 * unit, api.None}, {[]int{6 * unit, 4 * unit}, 12 * unit, api.None}, {[]int{2 * unit, 3 * unit, 4 * unit, 5 * unit, 6 * unit}, 60 * unit, api.None},
		{[]int{most}, most, api.None}, {[]int{most, most}, most, api.None}, {[]int{unit, most, unit}, most, api.None}, {[]int{most - 1}, most - unit, api.None},
		{[]int{4096 * unit, 244140625 * unit}, most, api.None}, {[]int{999999 * unit, 1000001 * unit}, most - unit, api.None}, {[]int{most, 4096 * unit, 244140625 * unit, 10 * unit}, most, api.None},
		{[]int{10001 * unit, 99990001 * unit}, 0, api.Range}, // the whole that is just too great
		{[]int{999999 * unit, 1000003 * unit, 7 * unit}, 0, api.Range}, {[]int{most, most - unit}, 0, api.Range}, {[]int{most, 3 * unit}, 0, api.Range}, {[]int{3 * unit, most}, 0, api.Range},
		{[]int{most, most - unit, 0}, 0, api.None}, {[]int{0, most, most - unit}, 0, api.None}, {[]int{most, most - unit, most - 3*unit, 999999}, 0, api.None},
		{[]int{-1}, 0, api.Range}, {[]int{-unit}, 0, api.Range}, {[]int{-most}, 0, api.Range},
	})
}

// P15.7: a number that may not be, at each place of a list, beside another one of the other kind too, noughts or not.
func TestAWrongNumberInAList(t *testing.T) {
	wrong := append(notFitting(), -1, -unit, -500000, -most, -most+1)
	lists := [][]int{{unit}, {0, 0}, {4 * unit, 6 * unit, 0}, {12 * unit, 18 * unit, 30 * unit, 500000, unit}, {most, most - unit, most - 3*unit}}
	for _, l := range lists {
		for at := 0; at <= len(l); at++ {
			for _, n := range wrong {
				with := slices.Insert(slices.Clone(l), at, n)
				checkListed(t, "Gcd", Gcd, []listCase{{with, 0, api.Range}})
				checkListed(t, "Lcm", Lcm, []listCase{{with, 0, api.Range}})
				for _, other := range wrong {
					behind := append(slices.Clone(with), other)
					checkListed(t, "Gcd", Gcd, []listCase{{behind, 0, api.Range}})
					checkListed(t, "Lcm", Lcm, []listCase{{behind, 0, api.Range}})
				}
			}
		}
	}
}

// lists tells many lists: all of edges of one and two, and scattered ones of small and great numbers.
func lists(t *testing.T) [][]int {
	t.Helper()
	var out [][]int
	for _, a := range edges() {
		out = append(out, []int{a})
		for _, b := range edges() {
			out = append(out, []int{a, b})
		}
	}
	small, great := scattered(5, 12000), scattered(6, 12000)
	for i := 0; i+5 <= len(small); i += 5 {
		l := make([]int, 0, 5)
		for j := range i/5%5 + 1 {
			n := small[i+j]
			if i%3 != 0 {
				n = max(n, -n) % (100 * unit)
			}
			if i%30 == 0 {
				n = great[i+j]
			}
			l = append(l, n)
		}
		out = append(out, l)
	}
	return out
}

// P15.7
func TestListsAgainstTheSecondTelling(t *testing.T) {
	for _, l := range lists(t) {
		if r, w := got(Gcd(l)), wantGcd(l); r != w {
			t.Fatalf("Gcd(%v) = %v; want %v", l, r, w)
		}
		if r, w := got(Lcm(l)), wantLcm(l); r != w {
			t.Fatalf("Lcm(%v) = %v; want %v", l, r, w)
		}
	}
}

// P15.7: of small numbers the one that the words ask for is looked for by trying.
func TestSmallLists(t *testing.T) {
	small := []int{0, 500000, unit, 1999999, 2 * unit, 3500000, 4 * unit, 6 * unit, 9 * unit}
	for _, a := range small {
		for _, b := range small {
			for _, c := range small {
				l := []int{a, b, c}
				checkListed(t, "Gcd", Gcd, []listCase{{l, triedGcd(l), api.None}})
				checkListed(t, "Lcm", Lcm, []listCase{{l, triedLcm(l), api.None}})
			}
		}
	}
}

func triedGcd(l []int) int {
	for d := 9; d > 0; d-- {
		if slices.ContainsFunc(l, func(n int) bool { return n >= unit }) && !slices.ContainsFunc(l, func(n int) bool { return n/unit%d != 0 }) {
			return d * unit
		}
	}
	return 0
}

func triedLcm(l []int) int {
	if slices.ContainsFunc(l, func(n int) bool { return n < unit }) {
		return 0
	}
	m := 1
	for slices.ContainsFunc(l, func(n int) bool { return m%(n/unit) != 0 }) {
		m++
	}
	return m * unit
}

// P15.7: a list of many numbers.
func TestLongLists(t *testing.T) {
	fours := slices.Repeat([]int{4 * unit}, 100000)
	checkListed(t, "Gcd", Gcd, []listCase{
		{fours, 4 * unit, api.None}, {append(slices.Clone(fours), 6*unit), 2 * unit, api.None}, {append(slices.Clone(fours), -1), 0, api.Range}, {append(slices.Clone(fours), math.MaxInt), 0, api.Range},
	})
	checkListed(t, "Lcm", Lcm, []listCase{
		{fours, 4 * unit, api.None}, {append(slices.Clone(fours), 6*unit), 12 * unit, api.None}, {append(slices.Clone(fours), 0), 0, api.None}, {append(slices.Clone(fours), math.MinInt), 0, api.Range},
	})
}

// A list that is handed in is not changed, and what stands behind its end neither.
func TestListsStay(t *testing.T) {
	for _, l := range [][]int{{12 * unit, 18500000, 30 * unit}, {0, 4 * unit, unit / 2}, {-1, 7 * unit, 2 * unit}} {
		room := append(slices.Clone(l), 5, -6, 7)
		before := slices.Clone(room)
		Gcd(room[:len(l)])
		Lcm(room[:len(l)])
		if !slices.Equal(room, before) {
			t.Errorf("%v became %v", before, room)
		}
	}
}
