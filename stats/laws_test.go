package stats

import (
	"math/rand"
	"slices"
	"testing"

	"foolscap/api"
)

// P16.1 to P16.5: all calls against their second tellings, of short lists and of long ones.
func TestAgainstTheSecondTelling(t *testing.T) {
	lists := slices.Concat(short(), scattered(1, 4000, 12), scattered(2, 30, maxArea))
	for _, c := range calls() {
		for _, l := range lists {
			if r, w := got(c.f(l)), c.want(l); r != w {
				t.Fatalf("%s(%v) = %v; want %v", c.name, shortened(l), r, w)
			}
		}
	}
}

// P16.1 to P16.5: each edge at the first, a middle and the last place of a list.
func TestEdgesAtEachPlace(t *testing.T) {
	around := [][]int{{}, {0}, {unit}, {unit, -unit}, {unit, 2 * unit}, {5 * unit, unit, 3 * unit}, {0, 0, 0, 0}, {most, -most, most}, repeated(unit, maxArea-1)}
	for _, n := range append(fitting(), notFitting()...) {
		for _, l := range around {
			for _, at := range []int{0, len(l) / 2, len(l)} {
				with := slices.Insert(slices.Clone(l), at, n)
				for _, c := range calls() {
					w := c.want(with)
					if !inside(n) {
						w = refused(api.Range)
					}
					if r := got(c.f(with)); r != w {
						t.Errorf("%s(%v) = %v; want %v", c.name, shortened(with), r, w)
					}
				}
			}
		}
	}
}

// P16.1 to P16.5: 4096 numbers may be asked for something, 4097 may not, whatever they are.
func TestHowMany(t *testing.T) {
	for _, n := range []int{0, 1, unit, -unit} {
		for _, c := range calls() {
			l := repeated(n, maxArea)
			if r, w := got(c.f(l)), c.want(l); r != w || w.c != api.None {
				t.Errorf("%s of %d, 4096 times = %v; want %v", c.name, n, r, w)
			}
			for _, many := range []int{maxArea + 1, maxArea + 2, 2 * maxArea, 100000} {
				if r := got(c.f(repeated(n, many))); r != refused(api.Range) {
					t.Errorf("%s of %d, %d times = %v; want Range", c.name, n, many, r)
				}
			}
		}
	}
}

// P16.6
func TestOrderDoesNotMatter(t *testing.T) {
	r := rand.New(rand.NewSource(9))
	for i, l := range append(scattered(10, 1500, 12), scattered(11, 10, maxArea)...) {
		other := slices.Clone(l)
		switch i % 3 {
		case 0:
			slices.Reverse(other)
		case 1:
			slices.Sort(other)
		default:
			r.Shuffle(len(other), func(i, j int) { other[i], other[j] = other[j], other[i] })
		}
		for _, c := range calls() {
			if c.name == "Product" || c.name == "Mode" || c.name == "Rank, falling" || c.name == "Rank, rising" {
				continue
			}
			if a, b := got(c.f(l)), got(c.f(other)); a != b {
				t.Fatalf("%s(%v) = %v, and of %v = %v", c.name, shortened(l), a, shortened(other), b)
			}
		}
		for _, n := range []int{0, first(l), first(other)} {
			checkRank(t, []rankCase{{n, other, got(Rank(n, l, false)), got(Rank(n, l, true))}})
		}
		for k := 0; k <= len(l)+1; k += 1 + len(l)/5 {
			checkK(t, []kCase{{other, k, got(Large(l, k)), got(Small(l, k))}})
		}
	}
}

// P16.6: the pairs of Dot may come in any order.
func TestOrderOfPairsDoesNotMatter(t *testing.T) {
	r := rand.New(rand.NewSource(12))
	as, bs := scattered(13, 2000, 10), scattered(14, 2000, 10)
	for i, a := range as {
		many := min(len(a), len(bs[i]))
		a, b := a[:many], bs[i][:many]
		c, d := slices.Clone(a), slices.Clone(b)
		r.Shuffle(many, func(i, j int) { c[i], c[j], d[i], d[j] = c[j], c[i], d[j], d[i] })
		if x, y := got(Dot(a, b)), got(Dot(c, d)); x != y {
			t.Fatalf("Dot(%v, %v) = %v, and of %v, %v = %v", a, b, x, c, d, y)
		}
	}
}

// P16.6: Product and Mode do hang on it.
func TestOrderMatters(t *testing.T) {
	check(t, "Product", Product, []listCase{{[]int{most, 2 * unit, 0}, refused(api.Range)}, {[]int{0, 2 * unit, most}, number(0)}})
	check(t, "Mode", Mode, []listCase{{[]int{1, 2, 2, 1}, number(1)}, {[]int{2, 1, 1, 2}, number(2)}})
}

// P16.7
func TestBothEnds(t *testing.T) {
	for _, l := range append(scattered(15, 1000, 15), scattered(16, 10, maxArea)...) {
		for k := 1; k <= len(l); k += 1 + len(l)/20 {
			if a, b := got(Large(l, k)), got(Small(l, len(l)+1-k)); a != b || a.c != api.None {
				t.Fatalf("of %v the largest %d is %v, the smallest %d %v", shortened(l), k, a, len(l)+1-k, b)
			}
		}
	}
}

// P16.8
func TestBetween(t *testing.T) {
	for _, l := range slices.Concat(short(), scattered(17, 4000, 15), scattered(18, 30, maxArea)) {
		if len(l) == 0 {
			continue
		}
		low, high := got(Least(l)), got(Greatest(l))
		for _, r := range []result{got(Mean(l)), got(Median(l))} {
			if r.c != api.None || r.n < low.n || r.n > high.n {
				t.Fatalf("of %v: %v, which does not lie between %v and %v", shortened(l), r, low, high)
			}
		}
	}
}

// P16.8: of numbers all alike they are all the same.
func TestAlike(t *testing.T) {
	for _, n := range fitting() {
		for _, many := range []int{1, 2, 3, 4, 7, 1000, maxArea} {
			l := repeated(n, many)
			for _, r := range []result{got(Mean(l)), got(Median(l)), got(Least(l)), got(Greatest(l)), got(Large(l, many)), got(Small(l, many))} {
				if r != number(n) {
					t.Errorf("of %d times %d: %v", many, n, r)
				}
			}
		}
	}
}

// P16.1 to P16.5: no list that is handed in is changed, nor what stands behind its end.
func TestListsStayAsTheyAre(t *testing.T) {
	for _, l := range append(scattered(19, 300, 12), []int{5, 4, 3, 2, 1}, []int{most, most + 1, 0}, repeated(1, maxArea+1)) {
		room := append(slices.Clone(l), 9, 7, 8)
		before := slices.Clone(room)
		handed := room[:len(l)]
		for _, c := range calls() {
			c.f(handed)
		}
		for k := 1; k <= min(len(l), 12); k++ {
			Large(handed, k)
			Small(handed, k)
		}
		Dot(handed, room)
		Dot(room, handed)
		Rank(3, handed, true)
		if !slices.Equal(room, before) {
			t.Fatalf("%v became %v", shortened(before), shortened(room))
		}
	}
}
