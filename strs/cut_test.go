package strs

import (
	"math"
	"testing"
)

// P14.1
func TestLeft(t *testing.T) {
	for _, c := range []struct {
		s    string
		n    int
		want string
	}{
		{"abcdef", 0, ""}, {"abcdef", 1, "a"}, {"abcdef", 2, "ab"}, {"abcdef", 5, "abcde"}, {"abcdef", 6, "abcdef"}, {"abcdef", 7, "abcdef"}, {"abcdef", math.MaxInt, "abcdef"},
		{"", 0, ""}, {"", 1, ""}, {"", math.MaxInt, ""}, {"é", 1, "\xc3"}, {"\xff\x00a", 2, "\xff\x00"}, {"  a", 2, "  "},
		{times("x", 254), 253, times("x", 253)}, {times("x", 254), 255, times("x", 254)}, {times("x", 255), 254, times("x", 254)}, {times("x", 255), 255, times("x", 255)}, {times("x", 255), 256, times("x", 255)},
	} {
		asksLeft(t, c.s, c.n, tells(c.want))
	}
}

// P14.1
func TestRight(t *testing.T) {
	for _, c := range []struct {
		s    string
		n    int
		want string
	}{
		{"abcdef", 0, ""}, {"abcdef", 1, "f"}, {"abcdef", 2, "ef"}, {"abcdef", 5, "bcdef"}, {"abcdef", 6, "abcdef"}, {"abcdef", 7, "abcdef"}, {"abcdef", math.MaxInt, "abcdef"},
		{"", 0, ""}, {"", 1, ""}, {"", math.MaxInt, ""}, {"é", 1, "\xa9"}, {"a\x00\xff", 2, "\x00\xff"}, {"a  ", 2, "  "},
		{"y" + times("x", 253), 253, times("x", 253)}, {"y" + times("x", 253), 255, "y" + times("x", 253)}, {"y" + times("x", 254), 254, times("x", 254)}, {"y" + times("x", 254), 255, "y" + times("x", 254)}, {"y" + times("x", 254), 256, "y" + times("x", 254)},
	} {
		asksRight(t, c.s, c.n, tells(c.want))
	}
}

// P14.1
func TestMid(t *testing.T) {
	for _, c := range []struct {
		s     string
		at, n int
		want  string
	}{
		{"abcdef", 2, 3, "bcd"}, {"abcdef", 1, 0, ""}, {"abcdef", 1, 1, "a"}, {"abcdef", 1, 6, "abcdef"}, {"abcdef", 1, 7, "abcdef"}, {"abcdef", 1, math.MaxInt, "abcdef"},
		{"abcdef", 5, 2, "ef"}, {"abcdef", 5, 3, "ef"}, {"abcdef", 6, 0, ""}, {"abcdef", 6, 1, "f"}, {"abcdef", 6, 2, "f"}, {"abcdef", 6, math.MaxInt, "f"},
		{"abcdef", 7, 0, ""}, {"abcdef", 7, 1, ""}, {"abcdef", 8, 1, ""}, {"abcdef", 99, 99, ""}, {"abcdef", math.MaxInt, 1, ""}, {"abcdef", math.MaxInt, math.MaxInt, ""}, {"abcdef", 2, math.MaxInt, "bcdef"}, {"abcdef", 7, math.MaxInt, ""},
		{"", 1, 0, ""}, {"", 1, 1, ""}, {"", 2, 1, ""}, {"", math.MaxInt, math.MaxInt, ""}, {"aéb", 3, 2, "\xa9b"}, {"a\xff\x00b", 2, 2, "\xff\x00"},
		{times("x", 254) + "y", 255, 1, "y"}, {times("x", 254) + "y", 254, 2, "xy"}, {times("x", 254) + "y", 1, 255, times("x", 254) + "y"}, {times("x", 254) + "y", 256, 1, ""}, {times("x", 253) + "y", 254, 9, "y"},
	} {
		asksMid(t, c.s, c.at, c.n, tells(c.want))
	}
}

// P14.1
func TestCutsOfCountsAndPlacesBelow(t *testing.T) {
	for _, s := range append(texts(), longTexts()...) {
		for _, n := range []int{-1, -2, -255, math.MinInt + 1, math.MinInt} {
			asksLeft(t, s, n, wrongText)
			asksRight(t, s, n, wrongText)
			asksMid(t, s, 1, n, wrongText)
			asksMid(t, s, math.MaxInt, n, wrongText)
			asksMid(t, s, n, 0, wrongText)
			asksMid(t, s, n, n, wrongText)
			asksMid(t, s, n, math.MaxInt, wrongText)
		}
		for _, n := range []int{0, 1, len(s), math.MaxInt} {
			asksMid(t, s, 0, n, wrongText)
		}
	}
}

// P14.1
func TestCutsOfTextsTooLong(t *testing.T) {
	for _, s := range longTexts() {
		for _, n := range counts(len(s)) {
			asksLeft(t, s, n, wrongText)
			asksRight(t, s, n, wrongText)
			for _, at := range counts(len(s)) {
				asksMid(t, s, at, n, wrongText)
			}
		}
	}
}

// P14.1
func TestCutsAsTheSecondTellingHasThem(t *testing.T) {
	for _, s := range texts() {
		for _, n := range counts(len(s)) {
			asksLeft(t, s, n, wantLeft(s, n))
			asksRight(t, s, n, wantRight(s, n))
			for _, at := range counts(len(s)) {
				asksMid(t, s, at, n, wantMid(s, at, n))
			}
		}
	}
	s := times("abcde", 51)
	for n := -3; n <= 260; n++ {
		asksLeft(t, s, n, wantLeft(s, n))
		asksRight(t, s, n, wantRight(s, n))
		for at := -3; at <= 260; at += 7 {
			asksMid(t, s, at, n, wantMid(s, at, n))
			asksMid(t, s, n, at, wantMid(s, n, at))
		}
	}
}
