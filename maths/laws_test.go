package maths

import (
	"math/big"
	"testing"

	"foolscap/api"
	"foolscap/num"
)

// near tells whether a multiple of step is less than a step off n, and n itself, if n is one.
func near(n, rounded, step int) bool {
	if n%step == 0 {
		return rounded == n
	}
	off := rounded - n
	return rounded%step == 0 && -step < off && off < step
}

// P15.8
func TestPlacesAreNear(t *testing.T) {
	for _, n := range append(edges(), scattered(7, 5000)...) {
		for places := -12; places <= 6; places++ {
			step := stepOf(places)
			up, c := Up(n, places)
			down, d := Down(n, places)
			if c != d {
				t.Fatalf("of %d and %d places: %d and %d", n, places, c, d)
			}
			if c != api.None {
				continue
			}
			if !near(n, up, step) || !near(n, down, step) || n%step != 0 && wantAbs(up-down).n != step {
				t.Fatalf("%d, to %d places, is %d and %d", n, places, up, down)
			}
		}
	}
}

// P15.8
func TestWholesAreNear(t *testing.T) {
	for _, n := range append(edges(), scattered(8, 20000)...) {
		if even, c := Even(n); c == api.None && !near(n, even, 2*unit) {
			t.Fatalf("Even(%d) = %d", n, even)
		}
		odd, c := Odd(n)
		if c != api.None {
			continue
		}
		if off := odd - n; odd/unit%2 == 0 || odd%unit != 0 || off <= -2*unit || off >= 2*unit {
			t.Fatalf("Odd(%d) = %d", n, odd)
		}
		if n%unit == 0 && n/unit%2 != 0 && odd != n {
			t.Fatalf("Odd(%d) = %d", n, odd)
		}
	}
}

// P15.8
func TestStepsAreNear(t *testing.T) {
	for _, p := range pairs(9, 10000) {
		n, step := p[0], p[1]
		if up, c := Ceiling(n, step); c == api.None && n != 0 && (!near(n, up, wantAbs(step).n) || up < n) {
			t.Fatalf("Ceiling(%d, %d) = %d", n, step, up)
		}
		if down, c := Floor(n, step); c == api.None && n != 0 && (!near(n, down, wantAbs(step).n) || down > n) {
			t.Fatalf("Floor(%d, %d) = %d", n, step, down)
		}
	}
}

// P15.9: half a millionth on, and half a millionth back, the square is beyond the number.
func TestTheSquareOfARoot(t *testing.T) {
	for _, n := range append(edges(), scattered(10, 20000)...) {
		root, c := Root(n)
		if c != api.None {
			continue
		}
		four := times(times(whole(n), unit), 4)
		behind, ahead := whole(2*root+1), whole(2*root-1)
		if new(big.Int).Mul(behind, behind).Cmp(four) <= 0 || root > 0 && new(big.Int).Mul(ahead, ahead).Cmp(four) >= 0 {
			t.Fatalf("Root(%d) = %d", n, root)
		}
	}
}

// P15.9: from 1 on, what rounding takes from a square is too little to be seen in its root; of whole thousandths it takes nothing.
func TestTheRootOfASquare(t *testing.T) {
	for _, n := range scattered(11, 20000) {
		root := unit + wantAbs(n).n%(unit*unit-unit+1)
		square, e := num.Mul(root, root)
		if back, c := Root(square); e != api.OK || c != api.None || back != root {
			t.Fatalf("Root(%d) = %d, %d; want %d", square, back, c, root)
		}
		root = wantAbs(n).n % (unit * unit / 1000) * 1000
		square, e = num.Mul(root, root)
		if back, c := Root(square); e != api.OK || c != api.None || back != root {
			t.Fatalf("Root(%d) = %d, %d; want %d", square, back, c, root)
		}
	}
}

// P15.10
func TestTheGcdDividesAll(t *testing.T) {
	for _, l := range lists(t) {
		gcd, c := Gcd(l)
		if c != api.None {
			continue
		}
		for _, n := range l {
			if gcd == 0 && n >= unit || gcd != 0 && n/unit*unit%gcd != 0 {
				t.Fatalf("Gcd(%v) = %d", l, gcd)
			}
		}
	}
}

// P15.10
func TestTheLcmIsDividedByAll(t *testing.T) {
	for _, l := range lists(t) {
		lcm, c := Lcm(l)
		if c != api.None {
			continue
		}
		for _, n := range l {
			if lcm != 0 && (n < unit || lcm%(n/unit*unit) != 0) {
				t.Fatalf("Lcm(%v) = %d", l, lcm)
			}
		}
	}
}

// P15.10
func TestTheProductOfBoth(t *testing.T) {
	seen := 0
	for _, p := range pairs(12, 40000) {
		a, b := wantAbs(p[0]).n, wantAbs(p[1]).n
		gcd, c := Gcd([]int{a, b})
		if c != api.None {
			t.Fatalf("Gcd(%d, %d): %d", a, b, c)
		}
		lcm, c := Lcm([]int{a, b})
		if c != api.None {
			continue
		}
		seen++
		if new(big.Int).Mul(whole(gcd/unit), whole(lcm/unit)).Cmp(new(big.Int).Mul(whole(a/unit), whole(b/unit))) != 0 {
			t.Fatalf("of %d and %d: %d and %d", a, b, gcd, lcm)
		}
	}
	if seen < 1000 {
		t.Errorf("only %d pairs have both", seen)
	}
}
