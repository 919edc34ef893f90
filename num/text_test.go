package num

import (
	"math"
	"regexp"
	"strings"
	"testing"

	"foolscap/api"
)

// P1.5
func TestParse(t *testing.T) {
	for _, c := range []struct {
		s string
		n int
		e api.Errno
	}{
		{"0", 0, api.OK},
		{"7", 7 * unit, api.OK},
		{"007.50", 7500000, api.OK},
		{"-0", 0, api.OK},
		{"-0.000000", 0, api.OK},
		{"-12.000001", -12000001, api.OK},
		{"0.1", 100000, api.OK},
		{"0.000001", 1, api.OK},
		{"-0.123456", -123456, api.OK},
		{"1000000000000", most, api.OK},
		{"1000000000000.000000", most, api.OK},
		{"-1000000000000", -most, api.OK},
		{"999999999999.999999", most - 1, api.OK},
		{"1000000000000.000001", 0, api.ErrOver},
		{"-1000000000000.000001", 0, api.ErrOver},
		{"1000000000001", 0, api.ErrOver},
		{"9223372036854.775807", 0, api.ErrOver},
		{"9223372036854775808", 0, api.ErrOver},
		{"18446744073709.551616", 0, api.ErrOver},
		{"18446744073709551617", 0, api.ErrOver},
		{"", 0, api.ErrSyntax},
		{"-", 0, api.ErrSyntax},
		{".", 0, api.ErrSyntax},
		{"-.", 0, api.ErrSyntax},
		{".5", 0, api.ErrSyntax},
		{"-.5", 0, api.ErrSyntax},
		{"5.", 0, api.ErrSyntax},
		{"1.0000000", 0, api.ErrSyntax},
		{"1.2.3", 0, api.ErrSyntax},
		{"1..2", 0, api.ErrSyntax},
		{"--1", 0, api.ErrSyntax},
		{"+1", 0, api.ErrSyntax},
		{"1-", 0, api.ErrSyntax},
		{"1.-5", 0, api.ErrSyntax},
		{" 1", 0, api.ErrSyntax},
		{"1 ", 0, api.ErrSyntax},
		{"1\n", 0, api.ErrSyntax},
		{"1\x00", 0, api.ErrSyntax},
		{"1e3", 0, api.ErrSyntax},
		{"1_000", 0, api.ErrSyntax},
		{"1,000", 0, api.ErrSyntax},
		{"1,5", 0, api.ErrSyntax},
		{"0x10", 0, api.ErrSyntax},
		{"/", 0, api.ErrSyntax},
		{":", 0, api.ErrSyntax},
		{"\u0661", 0, api.ErrSyntax},
		{"\xff", 0, api.ErrSyntax},
		{"1000000000001x", 0, api.ErrSyntax},
		{"NaN", 0, api.ErrSyntax},
	} {
		if n, e := Parse(c.s); n != c.n || e != c.e {
			t.Errorf("Parse(%q) = %d, %d; want %d, %d", c.s, n, e, c.n, c.e)
		}
	}
}

// P1.5: texts of 40 bytes may be numbers, those of 41 may not, whatever they would come to.
func TestParseLength(t *testing.T) {
	for _, c := range []struct {
		s string
		n int
		e api.Errno
	}{
		{strings.Repeat("0", 39) + "7", 7 * unit, api.OK},
		{strings.Repeat("0", 40) + "7", 0, api.ErrSyntax},
		{"-" + strings.Repeat("0", 32) + "3.14159", -3141590, api.OK},
		{"-" + strings.Repeat("0", 33) + "3.14159", 0, api.ErrSyntax},
		{strings.Repeat("0", 20) + "1000000000000.000000", most, api.OK},
		{strings.Repeat("0", 20) + "1000000000000.000001", 0, api.ErrOver},
		{strings.Repeat("0", 21) + "1000000000000.000001", 0, api.ErrSyntax},
		{strings.Repeat("9", 40), 0, api.ErrOver},
		{"-" + strings.Repeat("9", 39), 0, api.ErrOver},
		{strings.Repeat("9", 41), 0, api.ErrSyntax},
		{"1" + strings.Repeat("0", 39), 0, api.ErrOver},
		{strings.Repeat("0", 1000000), 0, api.ErrSyntax},
	} {
		if n, e := Parse(c.s); n != c.n || e != c.e {
			t.Errorf("Parse of %d bytes %.50q = %d, %d; want %d, %d", len(c.s), c.s, n, e, c.n, c.e)
		}
	}
}

// P1.5: every text of up to six of these bytes.
func TestParseAll(t *testing.T) {
	const letters = "-.09+ e"
	texts := []string{""}
	for first := 0; len(texts[first]) < 6; first++ {
		for i := range letters {
			texts = append(texts, texts[first]+letters[i:i+1])
		}
	}
	for _, s := range texts {
		if r, w := got(Parse(s)), wantParse(s); r != w {
			t.Fatalf("Parse(%q) = %v; want %v", s, r, w)
		}
	}
}

// P1.5: numbers of every length, with every length of a fraction.
func TestParseLong(t *testing.T) {
	const digits = "0123456789"
	next := 0
	take := func(count int) string {
		b := make([]byte, count)
		for i := range b {
			b[i] = digits[next%7*next%10]
			next++
		}
		return string(b)
	}
	for count := range 42 {
		for places := range 9 {
			for range 20 {
				s := take(count)
				if places > 0 {
					s += "." + take(places-1)
				}
				for _, s := range []string{s, "-" + s} {
					if r, w := got(Parse(s)), wantParse(s); r != w {
						t.Fatalf("Parse(%q) = %v; want %v", s, r, w)
					}
				}
			}
		}
	}
}

// P1.5
func TestPrint(t *testing.T) {
	for _, c := range []struct {
		n int
		s string
		e api.Errno
	}{
		{0, "0", api.OK},
		{7500000, "7.5", api.OK},
		{1, "0.000001", api.OK},
		{-1, "-0.000001", api.OK},
		{10, "0.00001", api.OK},
		{100000, "0.1", api.OK},
		{-500000, "-0.5", api.OK},
		{unit, "1", api.OK},
		{10 * unit, "10", api.OK},
		{-12 * unit, "-12", api.OK},
		{1020304, "1.020304", api.OK},
		{100100000, "100.1", api.OK},
		{most, "1000000000000", api.OK},
		{-most, "-1000000000000", api.OK},
		{most - 1, "999999999999.999999", api.OK},
		{-most + 1, "-999999999999.999999", api.OK},
		{most + 1, "", api.ErrArg},
		{-most - 1, "", api.ErrArg},
		{math.MaxInt, "", api.ErrArg},
		{math.MinInt, "", api.ErrArg},
	} {
		if s, e := Print(c.n); s != c.s || e != c.e {
			t.Errorf("Print(%d) = %q, %d; want %q, %d", c.n, s, e, c.s, c.e)
		}
	}
}

var shortest = regexp.MustCompile(`\A-?(0|[1-9][0-9]*)(\.[0-9]{0,5}[1-9])?\z`)

// P1.6, and P1.5's form of what is written.
func TestThereAndBack(t *testing.T) {
	near := []int{}
	for n := -3000; n <= 3000; n++ {
		near = append(near, n, n*unit/100, n*unit, most/3000*n)
	}
	for _, n := range append(append(near, edges()...), scattered(20000)...) {
		s, e := Print(n)
		if !inside(n) {
			if s != "" || e != api.ErrArg {
				t.Fatalf("Print(%d) = %q, %d", n, s, e)
			}
			continue
		}
		if e != api.OK || !shortest.MatchString(s) || s == "-0" {
			t.Fatalf("Print(%d) = %q, %d", n, s, e)
		}
		if r := got(Parse(s)); r != (result{n, api.OK}) {
			t.Fatalf("Parse(%q) = %v; want %d", s, r, n)
		}
	}
}
