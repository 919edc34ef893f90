package num

import (
	"math"
	"math/big"
	"math/rand"
	"regexp"
	"strings"
	"testing"

	"foolscap/api"
)

// The tests hold the package against big numbers, which share no code with it.

const (
	unit = api.Unit
	most = api.MaxNum
)

// edges are numbers at which something turns, on both sides of 0; some of them do not fit.
func edges() []int {
	out := []int{0, math.MinInt, math.MinInt + 1, math.MaxInt, math.MaxInt - 1}
	for _, n := range []int{1, 2, 3, 4, 5, 7, 9, 10, 11, 499999, 500000, 500001, 999999, unit, unit + 1, 1500000, 2500000, 7 * unit,
		20000654, 999999999, 1000000000, 1000000001, 1 << 32, 1<<32 - 1, 1 << 53, 1 << 59, most/2 - 1, most / 2, most/2 + 1,
		666666666666666667, 922307044245130765, most - unit, most - 2, most - 1, most, most + 1, most + unit, math.MaxInt / 2} {
		out = append(out, n, -n)
	}
	return out
}

// scattered tells numbers that fit, of all lengths, the same ones each time.
func scattered(count int) []int {
	r := rand.New(rand.NewSource(1))
	out := make([]int, count)
	for i := range out {
		n := r.Int() % (most + 1) >> r.Intn(60)
		if r.Intn(2) == 0 {
			n = -n
		}
		out[i] = n
	}
	return out
}

// pairs tells every pair of edges, and scattered ones.
func pairs() [][2]int {
	var out [][2]int
	for _, a := range edges() {
		for _, b := range edges() {
			out = append(out, [2]int{a, b})
		}
	}
	l := scattered(20000)
	for i := 0; i < len(l); i += 2 {
		out = append(out, [2]int{l[i], l[i+1]})
	}
	return out
}

func inside(n int) bool { return n >= -most && n <= most }

func whole(n int) *big.Int { return big.NewInt(int64(n)) }

// told tells a result as the package has to tell it.
func told(n *big.Int) (int, api.Errno) {
	if n.CmpAbs(whole(most)) > 0 {
		return 0, api.ErrOver
	}
	return int(n.Int64()), api.OK
}

// halfEven tells a/b as a whole number, by the words of the chapter: the nearest one, of two the even one.
func halfEven(a, b *big.Int) *big.Int {
	low := floorDiv(a, b)
	high := new(big.Int).Add(low, whole(1))
	exact := new(big.Rat).SetFrac(a, b)
	below := new(big.Rat).Sub(exact, new(big.Rat).SetInt(low))
	switch below.Cmp(big.NewRat(1, 2)) {
	case -1:
		return low
	case 1:
		return high
	}
	if low.Bit(0) == 0 {
		return low
	}
	return high
}

// floorDiv tells the greatest whole number that is not above a/b.
func floorDiv(a, b *big.Int) *big.Int {
	exact := new(big.Rat).SetFrac(a, b)
	q, rest := new(big.Int).QuoRem(exact.Num(), exact.Denom(), new(big.Int))
	if rest.Sign() < 0 {
		q.Sub(q, whole(1))
	}
	return q
}

type result struct {
	n int
	e api.Errno
}

func got(n int, e api.Errno) result { return result{n, e} }

func wantAdd(a, b int) result {
	if !inside(a) || !inside(b) {
		return result{0, api.ErrArg}
	}
	return got(told(new(big.Int).Add(whole(a), whole(b))))
}

func wantSub(a, b int) result {
	if !inside(a) || !inside(b) {
		return result{0, api.ErrArg}
	}
	return got(told(new(big.Int).Sub(whole(a), whole(b))))
}

func wantMul(a, b int) result {
	if !inside(a) || !inside(b) {
		return result{0, api.ErrArg}
	}
	return got(told(halfEven(new(big.Int).Mul(whole(a), whole(b)), whole(unit))))
}

func wantDiv(a, b int) result {
	switch {
	case !inside(a) || !inside(b):
		return result{0, api.ErrArg}
	case b == 0:
		return result{0, api.ErrZero}
	}
	return got(told(halfEven(new(big.Int).Mul(whole(a), whole(unit)), whole(b))))
}

func wantMod(a, b int) result {
	switch {
	case !inside(a) || !inside(b):
		return result{0, api.ErrArg}
	case b == 0:
		return result{0, api.ErrZero}
	}
	taken := new(big.Int).Mul(floorDiv(whole(a), whole(b)), whole(b))
	return got(told(new(big.Int).Sub(whole(a), taken)))
}

// stepOf tells how many millionths a decimal place has; places is from -12 to 6.
func stepOf(places int) int {
	step := 1
	for range 6 - places {
		step *= 10
	}
	return step
}

func wantRound(n, places int) result {
	if !inside(n) || places < -12 || places > 6 {
		return result{0, api.ErrArg}
	}
	step := whole(stepOf(places))
	return got(told(new(big.Int).Mul(halfEven(whole(n), step), step)))
}

func wantFloor(n int) result {
	if !inside(n) {
		return result{0, api.ErrArg}
	}
	return got(told(new(big.Int).Mul(floorDiv(whole(n), whole(unit)), whole(unit))))
}

var numberForm = regexp.MustCompile(`\A-?[0-9]+(\.[0-9]{1,6})?\z`)

func wantParse(s string) result {
	if len(s) > 40 || !numberForm.MatchString(s) {
		return result{0, api.ErrSyntax}
	}
	exact, ok := new(big.Rat).SetString(s)
	if !ok {
		panic(s)
	}
	exact.Mul(exact, big.NewRat(unit, 1))
	return got(told(exact.Num()))
}

func TestOracle(t *testing.T) {
	for _, c := range []struct{ got, want result }{
		{wantMul(500000, 3), result{2, api.OK}},
		{wantMul(-500000, 1), result{0, api.OK}},
		{wantDiv(-3, 2*unit), result{-2, api.OK}},
		{wantMod(-7*unit, 3*unit), result{2 * unit, api.OK}},
		{wantMod(7*unit, -3*unit), result{-2 * unit, api.OK}},
		{wantRound(-25*unit, -1), result{-20 * unit, api.OK}},
		{wantFloor(-1), result{-unit, api.OK}},
		{wantParse("007.50"), result{7500000, api.OK}},
		{wantParse(strings.Repeat("9", 40)), result{0, api.ErrOver}},
	} {
		if c.got != c.want {
			t.Errorf("the oracle tells %v, want %v", c.got, c.want)
		}
	}
}
