package wide

import (
	"math/rand"
	"slices"
	"testing"

	"foolscap/api"
)

// P3.1
func TestCheck(t *testing.T) {
	for _, w := range rightSums() {
		if e := Check(w); e != api.OK {
			t.Errorf("Check(%v) = %d, want OK", w, e)
		}
	}
	for _, w := range wrongSums() {
		if e := Check(w); e != api.ErrArg {
			t.Errorf("Check(%v) = %d, want ErrArg", w, e)
		}
	}
}

// P3.1: a sum that is not right is told, with nothing beside it, whatever the other argument is, even if the result would be right or beyond.
func TestWrongSums(t *testing.T) {
	none, zero := wideResult{e: api.ErrArg}, intResult{e: api.ErrArg}
	for _, w := range wrongSums() {
		for _, n := range append(numbers(), wrongNumbers()...) {
			if got := asWide(Add(w, n)); got != none {
				t.Errorf("Add(%v, %d) = %v, want ErrArg", w, n, got)
			}
			if got := asWide(Sub(w, n)); got != none {
				t.Errorf("Sub(%v, %d) = %v, want ErrArg", w, n, got)
			}
		}
		for _, o := range append(wrongSums(), rightSums()...) {
			if got, back := asWide(Join(w, o)), asWide(Join(o, w)); got != none || back != none {
				t.Errorf("Join of %v and %v = %v, %v, want ErrArg", w, o, got, back)
			}
			if got, back := asInt(Compare(w, o)), asInt(Compare(o, w)); got != zero || back != zero {
				t.Errorf("Compare of %v and %v = %v, %v, want ErrArg", w, o, got, back)
			}
		}
		if got := asInt(Total(w)); got != zero {
			t.Errorf("Total(%v) = %v, want ErrArg", w, got)
		}
		for _, count := range append(counts(), wrongCounts()...) {
			if got := asInt(Mean(w, count)); got != zero {
				t.Errorf("Mean(%v, %d) = %v, want ErrArg", w, count, got)
			}
		}
	}
}

// P3.2
func TestAdd(t *testing.T) {
	for _, c := range []struct {
		w    api.Wide
		n    int
		want wideResult
	}{
		{api.Wide{}, ten18, wideResult{w: api.Wide{High: 1}}},
		{api.Wide{}, -ten18, wideResult{w: api.Wide{High: -1}}},
		{api.Wide{}, -1, wideResult{w: api.Wide{High: -1, Low: topLow}}},
		{api.Wide{}, 0, wideResult{}},
		{api.Wide{Low: topLow}, 1, wideResult{w: api.Wide{High: 1}}},
		{api.Wide{Low: topLow}, ten18, wideResult{w: api.Wide{High: 1, Low: topLow}}},
		{api.Wide{High: -1, Low: topLow}, 1, wideResult{}},
		{greatest(), 0, wideResult{w: greatest()}},
		{greatest(), 1, wideResult{e: api.ErrOver}},
		{greatest(), ten18, wideResult{e: api.ErrOver}},
		{api.Wide{High: topHigh}, topLow, wideResult{w: greatest()}},
		{api.Wide{High: topHigh}, ten18, wideResult{e: api.ErrOver}},
		{least(), 0, wideResult{w: least()}},
		{least(), -1, wideResult{e: api.ErrOver}},
		{least(), -ten18, wideResult{e: api.ErrOver}},
		{api.Wide{High: -maxSum, Low: topLow}, -topLow, wideResult{w: least()}},
		{api.Wide{High: -maxSum, Low: topLow}, -ten18, wideResult{e: api.ErrOver}},
		{api.Wide{High: 5}, ten18 + 1, wideResult{e: api.ErrArg}},
		{api.Wide{High: 5}, -ten18 - 1, wideResult{e: api.ErrArg}},
		{greatest(), ten18 + 1, wideResult{e: api.ErrArg}},
		{least(), -ten18 - 1, wideResult{e: api.ErrArg}},
	} {
		if got := asWide(Add(c.w, c.n)); got != c.want {
			t.Errorf("Add(%v, %d) = %v, want %v", c.w, c.n, got, c.want)
		}
	}
}

// P3.2
func TestSub(t *testing.T) {
	for _, c := range []struct {
		w    api.Wide
		n    int
		want wideResult
	}{
		{api.Wide{}, 1, wideResult{w: api.Wide{High: -1, Low: topLow}}},
		{api.Wide{}, ten18, wideResult{w: api.Wide{High: -1}}},
		{api.Wide{}, -ten18, wideResult{w: api.Wide{High: 1}}},
		{api.Wide{High: 1}, 1, wideResult{w: api.Wide{Low: topLow}}},
		{api.Wide{Low: topLow}, -ten18, wideResult{w: api.Wide{High: 1, Low: topLow}}},
		{least(), 0, wideResult{w: least()}},
		{least(), 1, wideResult{e: api.ErrOver}},
		{least(), ten18, wideResult{e: api.ErrOver}},
		{api.Wide{High: -maxSum, Low: topLow}, topLow, wideResult{w: least()}},
		{api.Wide{High: -maxSum, Low: topLow}, ten18, wideResult{e: api.ErrOver}},
		{greatest(), -1, wideResult{e: api.ErrOver}},
		{api.Wide{High: topHigh}, -topLow, wideResult{w: greatest()}},
		{api.Wide{High: topHigh}, -ten18, wideResult{e: api.ErrOver}},
		{api.Wide{High: 5}, ten18 + 1, wideResult{e: api.ErrArg}},
		{api.Wide{High: 5}, -ten18 - 1, wideResult{e: api.ErrArg}},
		{least(), ten18 + 1, wideResult{e: api.ErrArg}},
		{greatest(), -ten18 - 1, wideResult{e: api.ErrArg}},
	} {
		if got := asWide(Sub(c.w, c.n)); got != c.want {
			t.Errorf("Sub(%v, %d) = %v, want %v", c.w, c.n, got, c.want)
		}
	}
}

// P3.2
func TestJoin(t *testing.T) {
	for _, c := range []struct {
		a, b api.Wide
		want wideResult
	}{
		{api.Wide{}, api.Wide{}, wideResult{}},
		{api.Wide{High: 2, Low: 3}, api.Wide{High: 4, Low: 5}, wideResult{w: api.Wide{High: 6, Low: 8}}},
		{api.Wide{Low: topLow}, api.Wide{Low: 1}, wideResult{w: api.Wide{High: 1}}},
		{api.Wide{Low: topLow}, api.Wide{Low: topLow}, wideResult{w: api.Wide{High: 1, Low: topLow - 1}}},
		{api.Wide{High: -1, Low: topLow}, api.Wide{High: -1, Low: topLow}, wideResult{w: api.Wide{High: -1, Low: topLow - 1}}},
		{least(), greatest(), wideResult{w: api.Wide{High: -1, Low: topLow}}},
		{least(), least(), wideResult{e: api.ErrOver}},
		{greatest(), greatest(), wideResult{e: api.ErrOver}},
		{greatest(), api.Wide{Low: 1}, wideResult{e: api.ErrOver}},
		{least(), api.Wide{High: -1, Low: topLow}, wideResult{e: api.ErrOver}},
		{api.Wide{High: -maxSum, Low: 1}, api.Wide{High: -1, Low: topLow}, wideResult{w: least()}},
		{api.Wide{High: maxSum / 2}, api.Wide{High: maxSum / 2}, wideResult{e: api.ErrOver}},
		{api.Wide{High: maxSum / 2}, api.Wide{High: maxSum/2 - 1, Low: topLow}, wideResult{w: greatest()}},
		{api.Wide{High: -maxSum / 2}, api.Wide{High: -maxSum / 2}, wideResult{w: least()}},
	} {
		if got := asWide(Join(c.a, c.b)); got != c.want {
			t.Errorf("Join(%v, %v) = %v, want %v", c.a, c.b, got, c.want)
		}
	}
}

// P3.2
func TestSumsAreExact(t *testing.T) {
	for _, w := range rightSums() {
		for _, n := range append(numbers(), wrongNumbers()...) {
			holdNumber(t, w, n)
		}
		for _, o := range rightSums() {
			holdBoth(t, w, o)
		}
	}
	scatter(20000, func(a, b api.Wide, n, _ int) {
		holdNumber(t, a, n)
		holdBoth(t, a, b)
	})
}

func holdNumber(t *testing.T, w api.Wide, n int) {
	t.Helper()
	if got, want := asWide(Add(w, n)), wantAdd(w, n); got != want {
		t.Errorf("Add(%v, %d) = %v, want %v", w, n, got, want)
	}
	if got, want := asWide(Sub(w, n)), wantSub(w, n); got != want {
		t.Errorf("Sub(%v, %d) = %v, want %v", w, n, got, want)
	}
}

func holdBoth(t *testing.T, a, b api.Wide) {
	t.Helper()
	if got, want := asWide(Join(a, b)), wantJoin(a, b); got != want {
		t.Errorf("Join(%v, %v) = %v, want %v", a, b, got, want)
	}
	if got, want := asInt(Compare(a, b)), wantCompare(a, b); got != want {
		t.Errorf("Compare(%v, %v) = %v, want %v", a, b, got, want)
	}
}

// P3.3
func TestTotal(t *testing.T) {
	for _, c := range []struct {
		w    api.Wide
		want intResult
	}{
		{api.Wide{}, intResult{n: 0}},
		{api.Wide{Low: topLow}, intResult{n: topLow}},
		{api.Wide{High: 1}, intResult{n: ten18}},
		{api.Wide{High: 1, Low: 1}, intResult{e: api.ErrOver}},
		{api.Wide{High: 1, Low: topLow}, intResult{e: api.ErrOver}},
		{api.Wide{High: 2}, intResult{e: api.ErrOver}},
		{api.Wide{High: -1, Low: topLow}, intResult{n: -1}},
		{api.Wide{High: -1, Low: 1}, intResult{n: 1 - ten18}},
		{api.Wide{High: -1}, intResult{n: -ten18}},
		{api.Wide{High: -2, Low: topLow}, intResult{e: api.ErrOver}},
		{api.Wide{High: -2}, intResult{e: api.ErrOver}},
		{least(), intResult{e: api.ErrOver}},
		{greatest(), intResult{e: api.ErrOver}},
	} {
		if got := asInt(Total(c.w)); got != c.want {
			t.Errorf("Total(%v) = %v, want %v", c.w, got, c.want)
		}
	}
}

// P3.3: what is added to nothing comes back, and what is taken from nothing, with the other sign.
func TestTotalOfOne(t *testing.T) {
	for _, n := range numbers() {
		added, _ := Add(api.Wide{}, n)
		if got := asInt(Total(added)); got != (intResult{n: n}) {
			t.Errorf("Total of %d added = %v", n, got)
		}
		taken, _ := Sub(api.Wide{}, n)
		if got := asInt(Total(taken)); got != (intResult{n: -n}) {
			t.Errorf("Total of %d taken = %v", n, got)
		}
	}
}

// P3.3
func TestMean(t *testing.T) {
	below := func(n int) api.Wide { return api.Wide{High: -1, Low: ten18 - n} }
	for _, c := range []struct {
		w     api.Wide
		count int
		want  intResult
	}{
		{api.Wide{Low: 5}, 2, intResult{n: 2}}, {api.Wide{Low: 7}, 2, intResult{n: 4}}, {api.Wide{Low: 1}, 2, intResult{n: 0}}, {api.Wide{Low: 3}, 2, intResult{n: 2}},
		{below(5), 2, intResult{n: -2}}, {below(7), 2, intResult{n: -4}}, {below(1), 2, intResult{n: 0}}, {below(3), 2, intResult{n: -2}},
		{api.Wide{Low: 4}, 3, intResult{n: 1}}, {api.Wide{Low: 5}, 3, intResult{n: 2}}, {below(4), 3, intResult{n: -1}}, {below(5), 3, intResult{n: -2}},
		{api.Wide{Low: maxSum / 2}, maxSum, intResult{n: 0}}, {api.Wide{Low: maxSum/2 + 1}, maxSum, intResult{n: 1}}, {api.Wide{Low: 3 * maxSum / 2}, maxSum, intResult{n: 2}},
		{below(maxSum / 2), maxSum, intResult{n: 0}}, {below(maxSum/2 + 1), maxSum, intResult{n: -1}}, {below(3*maxSum/2 - 1), maxSum, intResult{n: -1}},
		{api.Wide{}, 1, intResult{n: 0}}, {api.Wide{}, maxSum, intResult{n: 0}},
		{api.Wide{High: 1}, 3, intResult{n: 333333333333333333}}, {api.Wide{High: -1}, 3, intResult{n: -333333333333333333}},
		{api.Wide{High: 1}, 1, intResult{n: ten18}}, {api.Wide{High: 1, Low: 1}, 1, intResult{e: api.ErrOver}}, {api.Wide{High: -1}, 1, intResult{n: -ten18}}, {api.Wide{High: -2, Low: topLow}, 1, intResult{e: api.ErrOver}},
		{api.Wide{High: 2}, 2, intResult{n: ten18}}, {api.Wide{High: 2, Low: 1}, 2, intResult{n: ten18}}, {api.Wide{High: 2, Low: 2}, 2, intResult{e: api.ErrOver}}, {api.Wide{High: 2, Low: 3}, 2, intResult{e: api.ErrOver}},
		{api.Wide{High: -3, Low: topLow}, 2, intResult{n: -ten18}}, {api.Wide{High: -3, Low: topLow - 1}, 2, intResult{e: api.ErrOver}},
		{api.Wide{High: 1, Low: topLow}, 2, intResult{n: ten18}}, {api.Wide{High: -2, Low: 1}, 2, intResult{n: -ten18}},
		{greatest(), maxSum, intResult{n: ten18}}, {least(), maxSum, intResult{n: -ten18}}, {least(), maxSum - 1, intResult{e: api.ErrOver}}, {greatest(), maxSum - 1, intResult{e: api.ErrOver}},
		{greatest(), 1, intResult{e: api.ErrOver}}, {least(), 1, intResult{e: api.ErrOver}},
		{api.Wide{Low: 5}, 0, intResult{e: api.ErrArg}}, {api.Wide{Low: 5}, -1, intResult{e: api.ErrArg}}, {api.Wide{Low: 5}, maxSum + 1, intResult{e: api.ErrArg}},
		{greatest(), 0, intResult{e: api.ErrArg}}, {greatest(), maxSum + 1, intResult{e: api.ErrArg}},
	} {
		if got := asInt(Mean(c.w, c.count)); got != c.want {
			t.Errorf("Mean(%v, %d) = %v, want %v", c.w, c.count, got, c.want)
		}
	}
}

// P3.3
func TestTotalsAndMeansAreExact(t *testing.T) {
	for _, w := range rightSums() {
		if got, want := asInt(Total(w)), wantTotal(w); got != want {
			t.Errorf("Total(%v) = %v, want %v", w, got, want)
		}
		for _, count := range append(counts(), wrongCounts()...) {
			holdMean(t, w, count)
		}
	}
	scatter(20000, func(a, _ api.Wide, _, count int) { holdMean(t, a, count) })
}

func holdMean(t *testing.T, w api.Wide, count int) {
	t.Helper()
	if got, want := asInt(Mean(w, count)), wantMean(w, count); got != want {
		t.Errorf("Mean(%v, %d) = %v, want %v", w, count, got, want)
	}
}

// P3.3: sums around those whose mean lies just in the middle between two millionths.
func TestMeansInTheMiddle(t *testing.T) {
	for _, count := range []int{2, 4, 6, 10, 1000000, 1 << 30, maxSum - 2, maxSum} {
		for _, n := range []int{0, 1, 2, 3, 499999, 500000, 1 << 53, most - 2, most - 1, most, -1, -2, -3, -4, -most, 1 - most, -1 - most} {
			middle := whole(n)
			middle.Mul(middle, whole(count))
			middle.Add(middle, whole(count/2))
			for k := -2; k <= 2; k++ {
				near := whole(k)
				if w, e := sum(near.Add(near, middle)); e == api.OK {
					holdMean(t, w, count)
				}
			}
		}
	}
}

// P3.4
func TestCompare(t *testing.T) {
	for _, c := range []struct {
		a, b api.Wide
		want int
	}{
		{api.Wide{High: -1, Low: 5}, api.Wide{}, -1},
		{api.Wide{High: -1, Low: 5}, api.Wide{Low: 1}, -1},
		{api.Wide{High: 1}, api.Wide{Low: topLow}, 1},
		{api.Wide{High: -2, Low: topLow}, api.Wide{High: -1}, -1},
		{api.Wide{High: -1, Low: 5}, api.Wide{High: -1, Low: 6}, -1},
		{api.Wide{High: 7, Low: 6}, api.Wide{High: 7, Low: 5}, 1},
		{api.Wide{High: 7, Low: 6}, api.Wide{High: 7, Low: 6}, 0},
		{least(), greatest(), -1}, {greatest(), least(), 1}, {least(), least(), 0}, {greatest(), greatest(), 0},
	} {
		if got := asInt(Compare(c.a, c.b)); got != (intResult{n: c.want}) {
			t.Errorf("Compare(%v, %v) = %v, want %d", c.a, c.b, got, c.want)
		}
		if got := asInt(Compare(c.b, c.a)); got != (intResult{n: -c.want}) {
			t.Errorf("Compare(%v, %v) = %v, want %d", c.b, c.a, got, -c.want)
		}
	}
}

// change is a number that is added, or taken away.
type change struct {
	n     int
	taken bool
}

// changed tells a sum after all changes, none of which may be refused.
func changed(t *testing.T, w api.Wide, l []change) api.Wide {
	t.Helper()
	for _, c := range l {
		do := Add
		if c.taken {
			do = Sub
		}
		next, e := do(w, c.n)
		if e != api.OK {
			t.Fatalf("%v of %v is refused: %d", c, w, e)
		}
		w = next
	}
	return w
}

// manyChanges tells changes of all lengths, and of the greatest, so that High moves far to both sides.
func manyChanges(r *rand.Rand) []change {
	var out []change
	for _, n := range numbers() {
		out = append(out, change{n, r.Intn(2) == 0})
	}
	side := r.Intn(2) == 0
	for range 200 {
		out = append(out, change{most - r.Intn(1000), side}, change{(r.Intn(most+1) >> r.Intn(60)) * (1 - 2*r.Intn(2)), r.Intn(2) == 0})
	}
	return out
}

// P3.5: the order of what is added and taken away is not to be seen, nor whether it is summed in one row or in parts.
func TestOrderIsNotSeen(t *testing.T) {
	r := rand.New(rand.NewSource(6))
	for range 50 {
		l := manyChanges(r)
		want := whole(0)
		for _, c := range l {
			if c.taken {
				want.Sub(want, whole(c.n))
			} else {
				want.Add(want, whole(c.n))
			}
		}
		for range 5 {
			r.Shuffle(len(l), func(i, j int) { l[i], l[j] = l[j], l[i] })
			w := changed(t, api.Wide{}, l)
			if amount(w).Cmp(want) != 0 || Check(w) != api.OK {
				t.Fatalf("the sum is %v, want %v", w, want)
			}
			cut := r.Intn(len(l))
			if got := asWide(Join(changed(t, api.Wide{}, l[:cut]), changed(t, api.Wide{}, l[cut:]))); got != (wideResult{w: w}) {
				t.Fatalf("the sum in parts is %v, want %v", got, w)
			}
		}
	}
}

// P3.5: what is added and taken away again, in whatever order, leaves what there was.
func TestNothingIsLost(t *testing.T) {
	r := rand.New(rand.NewSource(7))
	for _, from := range []api.Wide{{}, {Low: topLow}, {High: -1}, {High: -1, Low: topLow}, {High: 1000000, Low: 1}, {High: -1000000, Low: topLow}} {
		l := manyChanges(r)
		for _, c := range slices.Clone(l) {
			l = append(l, change{c.n, !c.taken})
		}
		r.Shuffle(len(l), func(i, j int) { l[i], l[j] = l[j], l[i] })
		if w := changed(t, from, l); w != from {
			t.Errorf("%v comes back as %v", from, w)
		}
	}
}

// P3.5: MaxSum of the least number still have a sum; so have MaxSum less one of the greatest, and all but a millionth of one more.
func TestAsManyAsMayBe(t *testing.T) {
	for _, n := range []int{-most, most} {
		w, e := Add(api.Wide{}, n)
		for range 30 {
			if w, e = Join(w, w); e != api.OK {
				t.Fatalf("2^30 of %d have no sum", n)
			}
		}
		less, _ := Sub(w, n)
		got, e := Join(w, less)
		if e != api.OK {
			t.Fatalf("all but one of %d have no sum", n)
		}
		last, _ := Add(api.Wide{}, n)
		whole := asWide(Join(got, last))
		if n < 0 && whole != (wideResult{w: least()}) || n > 0 && whole != (wideResult{e: api.ErrOver}) {
			t.Errorf("MaxSum of %d are %v", n, whole)
		}
	}
}

// P3.6
func TestMeanLiesBetween(t *testing.T) {
	r := rand.New(rand.NewSource(8))
	for range 3000 {
		middle := (r.Intn(most+1) >> r.Intn(60)) * (1 - 2*r.Intn(2))
		room := 1 + r.Intn(most)>>r.Intn(60)
		var w api.Wide
		low, high := most, -most
		count := 1 + r.Intn(30)
		for range count {
			n := min(max(middle+r.Intn(2*room+1)-room, -most), most)
			low, high = min(low, n), max(high, n)
			next, e := Add(w, n)
			if e != api.OK {
				t.Fatalf("Add(%v, %d) is refused: %d", w, n, e)
			}
			w = next
		}
		if mean, e := Mean(w, count); e != api.OK || mean < low || mean > high {
			t.Fatalf("Mean(%v, %d) = %d, %d, want it from %d to %d", w, count, mean, e, low, high)
		}
	}
}

// P3.6: of equal numbers the mean is theirs, of as many as there may be.
func TestMeanOfEqualNumbers(t *testing.T) {
	for _, n := range numbers() {
		for _, count := range counts() {
			all := whole(count)
			w, e := sum(all.Mul(all, whole(n)))
			if e != api.OK {
				continue
			}
			if got := asInt(Mean(w, count)); got != (intResult{n: n}) {
				t.Errorf("the mean of %d of %d is %v", count, n, got)
			}
		}
	}
}
