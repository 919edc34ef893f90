package strs

import (
	"math"
	"math/rand"
	"testing"
)

// P14.3
func TestReplace(t *testing.T) {
	for _, c := range []struct {
		s     string
		at, n int
		t     string
		want  string
	}{
		{"abcdef", 2, 3, "X", "aXef"}, {"abcdef", 1, 1, "X", "Xbcdef"}, {"abcdef", 1, 0, "X", "Xabcdef"}, {"abcdef", 1, 6, "X", "X"}, {"abcdef", 1, 7, "X", "X"}, {"abcdef", 1, math.MaxInt, "X", "X"}, {"abcdef", 3, 0, "XY", "abXYcdef"}, {"abcdef", 2, 2, "XYZ", "aXYZdef"},
		{"abcdef", 6, 0, "X", "abcdeXf"}, {"abcdef", 6, 1, "X", "abcdeX"}, {"abcdef", 6, 2, "X", "abcdeX"}, {"abcdef", 6, math.MaxInt, "X", "abcdeX"}, {"abcdef", 2, math.MaxInt, "X", "aX"},
		{"abcdef", 7, 0, "X", "abcdefX"}, {"abcdef", 7, 3, "X", "abcdefX"}, {"abcdef", 8, 3, "X", "abcdefX"}, {"abcdef", 99, 0, "X", "abcdefX"}, {"abcdef", math.MaxInt, 0, "X", "abcdefX"}, {"abcdef", math.MaxInt, math.MaxInt, "X", "abcdefX"}, {"abcdef", 7, math.MaxInt, "X", "abcdefX"},
		{"abcdef", 2, 3, "", "aef"}, {"abcdef", 1, 6, "", ""}, {"abcdef", 3, 0, "", "abcdef"}, {"abcdef", 9, 9, "", "abcdef"}, {"", 1, 0, "", ""}, {"", 1, 0, "X", "X"}, {"", 1, 5, "X", "X"}, {"", 9, 5, "X", "X"}, {"", math.MaxInt, math.MaxInt, "", ""},
		{"aéb", 2, 1, "\xff", "a\xff\xa9b"}, {"a\x00b", 2, 1, " ", "a b"}, {"aaa", 2, 1, "aa", "aaaa"},
		{times("x", 254), 9, 0, "y", times("x", 8) + "y" + times("x", 246)}, {times("x", 255), 9, 1, "y", times("x", 8) + "y" + times("x", 246)}, {times("x", 255), 256, 0, "", times("x", 255)}, {times("x", 255), 1, 255, times("y", 255), times("y", 255)}, {times("x", 100), 101, 7, times("y", 155), times("x", 100) + times("y", 155)}, {"", 1, 0, times("y", 255), times("y", 255)}, {times("x", 255), 2, 254, times("y", 254), "x" + times("y", 254)},
	} {
		asksReplace(t, c.s, c.at, c.n, c.t, tells(c.want))
	}
}

// P14.3
func TestReplaceThatGoesTooFar(t *testing.T) {
	for _, c := range []struct {
		s     string
		at, n int
		t     string
	}{
		{times("x", 255), 1, 0, "y"}, {times("x", 255), 9, 0, "y"}, {times("x", 255), 256, 1, "y"}, {times("x", 255), math.MaxInt, math.MaxInt, "y"}, {times("x", 255), 9, 1, "yy"}, {times("x", 255), 255, 1, "yy"}, {times("x", 255), 255, 9, "yy"}, {times("x", 254), 1, 0, "yy"}, {times("x", 254), 300, 0, "yy"}, {"x", 1, 0, times("y", 255)}, {"x", 2, 0, times("y", 255)}, {"xx", 1, 1, times("y", 255)}, {times("x", 100), 101, 7, times("y", 156)}, {times("x", 255), 1, 254, times("y", 255)}, {times("x", 255), 1, 0, times("y", 255)},
	} {
		asksReplace(t, c.s, c.at, c.n, c.t, wrongText)
	}
}

// P14.3
func TestReplaceOfWhatMayNotBe(t *testing.T) {
	below := []int{-1, -2, -256, math.MinInt + 1, math.MinInt}
	for _, s := range texts() {
		for _, u := range []string{"", "X", s} {
			for _, n := range below {
				asksReplace(t, s, 1, n, u, wrongText)
				asksReplace(t, s, math.MaxInt, n, u, wrongText)
				asksReplace(t, s, n, n, u, wrongText)
			}
			for _, at := range append(below, 0) {
				asksReplace(t, s, at, 0, u, wrongText)
				asksReplace(t, s, at, 2, u, wrongText)
				asksReplace(t, s, at, math.MaxInt, u, wrongText)
			}
		}
	}
	for _, long := range longTexts() {
		for _, n := range counts(len(long)) {
			for _, at := range []int{0, 1, 2, 255, len(long), len(long) + 1, math.MaxInt} {
				asksReplace(t, long, at, n, "", wrongText)
				asksReplace(t, "", at, n, long, wrongText)
				asksReplace(t, "abc", at, n, long, wrongText)
				asksReplace(t, long, at, n, long, wrongText)
			}
		}
	}
}

// P14.3
func TestReplaceAsTheSecondTellingHasIt(t *testing.T) {
	for _, s := range texts() {
		for _, u := range []string{"", "a", "xyz", " ", "\xff", times("y", 128), times("y", 255)} {
			for _, at := range counts(len(s)) {
				for _, n := range counts(len(s)) {
					asksReplace(t, s, at, n, u, wantReplace(s, at, n, u))
				}
			}
		}
	}
	r := rand.New(rand.NewSource(2))
	for range 20000 {
		s, u := scattered(r, 200), scattered(r, 100)
		at, n := r.Intn(len(s)+10)-2, r.Intn(len(s)+10)-2
		asksReplace(t, s, at, n, u, wantReplace(s, at, n, u))
	}
}

// P14.3
func TestSubstitute(t *testing.T) {
	for _, c := range []struct {
		s, old, new string
		k           int
		want        string
	}{
		{"aaa", "a", "b", 0, "bbb"}, {"aaa", "a", "b", 1, "baa"}, {"aaa", "a", "b", 2, "aba"}, {"aaa", "a", "b", 3, "aab"}, {"aaa", "a", "b", 4, "aaa"}, {"aaa", "a", "b", 256, "aaa"}, {"aaa", "a", "b", math.MaxInt, "aaa"},
		{"aaaa", "aa", "b", 0, "bb"}, {"aaaa", "aa", "b", 1, "baa"}, {"aaaa", "aa", "b", 2, "aab"}, {"aaaa", "aa", "b", 3, "aaaa"}, {"aaaaa", "aa", "b", 0, "bba"}, {"aaaaa", "aa", "b", 2, "aaba"}, {"ababa", "aba", "x", 0, "xba"}, {"ababa", "aba", "x", 2, "ababa"}, {"abababa", "aba", "x", 0, "xbx"}, {"abababa", "aba", "x", 2, "ababx"},
		{"abc", "abc", "x", 0, "x"}, {"abc", "abc", "x", 1, "x"}, {"abc", "abc", "x", 2, "abc"}, {"abc", "abcd", "x", 0, "abc"}, {"abc", "a", "x", 0, "xbc"}, {"abc", "c", "x", 0, "abx"}, {"abc", "b", "x", 0, "axc"}, {"abc", "d", "x", 0, "abc"}, {"abc", "d", "x", 1, "abc"}, {"", "a", "x", 0, ""}, {"", "", "x", 0, ""},
		{"aaa", "a", "aa", 0, "aaaaaa"}, {"aaa", "a", "aa", 2, "aaaa"}, {"aba", "a", "bab", 0, "babbbab"}, {"ab", "ab", "aab", 0, "aab"}, {"aab", "ab", "b", 0, "ab"}, {"aabb", "ab", "", 0, "ab"}, {"abab", "ab", "ba", 0, "baba"},
		{"aXbXc", "X", "", 0, "abc"}, {"aXbXc", "X", "", 1, "abXc"}, {"aXbXc", "X", "", 2, "aXbc"}, {"aaa", "a", "", 0, ""}, {"aaa", "a", "", 3, "aa"},
		{"abc", "", "x", 0, "abc"}, {"abc", "", "x", 1, "abc"}, {"abc", "", "", 4, "abc"}, {"", "", "", 0, ""}, {"", "", "x", 1, ""},
		{"aAa", "a", "b", 0, "bAb"}, {"aAa", "A", "b", 1, "aba"}, {"a.a", ".", "b", 0, "aba"}, {"a*a?a~", "*", "x", 0, "axa?a~"}, {"a*a?a~", "?", "x", 0, "a*axa~"}, {"a*a?a~", "~", "$1", 0, "a*a?a$1"}, {"é", "\xc3", "x", 0, "x\xa9"}, {"\xff\xff\x00", "\xff", "\x00", 1, "\x00\xff\x00"}, {" a ", " ", "", 0, "a"}, {"a  b", "  ", " ", 0, "a b"},
		{times("a", 127), "a", "bb", 0, times("b", 254)}, {times("a", 127) + "c", "a", "bb", 0, times("b", 254) + "c"}, {times("a", 85), "a", "bbb", 0, times("b", 255)}, {times("a", 255), "a", "b", 0, times("b", 255)}, {times("a", 255), "a", "b", 255, times("a", 254) + "b"}, {times("a", 255), "a", "bb", 256, times("a", 255)}, {times("a", 254), "a", "bb", 1, "bb" + times("a", 253)}, {times("a", 254), "a", "bb", 254, times("a", 253) + "bb"}, {times("a", 255), times("a", 255), times("b", 255), 0, times("b", 255)}, {times("a", 254), times("a", 255), times("b", 255), 0, times("a", 254)}, {times("a", 255), times("a", 254), times("b", 254), 0, times("b", 254) + "a"}, {times("a", 254), times("a", 254), times("b", 254), 1, times("b", 254)}, {"a", "a", times("b", 255), 1, times("b", 255)}, {times("a", 255), "aa", "", 0, "a"}, {times("a", 255), "", times("b", 255), 0, times("a", 255)}, {times("a", 255), "c", times("b", 255), 0, times("a", 255)}, {times("a", 253), "aa", "abab", 126, times("a", 250) + "ababa"},
	} {
		asksSubstitute(t, c.s, c.old, c.new, c.k, tells(c.want))
	}
}

// P14.3
func TestSubstituteThatGoesTooFar(t *testing.T) {
	for _, c := range []struct {
		s, old, new string
		k           int
	}{
		{times("a", 128), "a", "bb", 0}, {times("a", 255), "a", "bb", 0}, {times("a", 255), "a", "bb", 1}, {times("a", 255), "a", "bb", 255}, {times("a", 127) + "cc", "a", "bb", 0}, {"cc" + times("a", 127), "a", "bb", 0}, {times("a", 200), "a", "bb", 0}, {times("a", 86), "a", "bbb", 0}, {"aa", "a", times("b", 128), 0}, {"aa", "a", times("b", 255), 1}, {"aa", "a", times("b", 255), 2}, {times("ab", 127), "ab", times("c", 255), 127}, {times("a", 254) + "c", "c", "cc", 1}, {times("a", 254), "aa", "abab", 127}, {times("a", 255), "aa", "aaa", 1},
	} {
		asksSubstitute(t, c.s, c.old, c.new, c.k, wrongText)
	}
}

// P14.3
func TestSubstituteOfWhatMayNotBe(t *testing.T) {
	for _, k := range []int{-1, -2, -256, math.MinInt + 1, math.MinInt} {
		for _, s := range texts() {
			asksSubstitute(t, s, "a", "b", k, wrongText)
			asksSubstitute(t, s, "", "b", k, wrongText)
			asksSubstitute(t, s, s, "", k, wrongText)
		}
	}
	for _, long := range longTexts() {
		for _, k := range []int{-1, 0, 1, 2, math.MaxInt} {
			for _, s := range []string{"", "a", times("x", 255)} {
				asksSubstitute(t, long, s, "", k, wrongText)
				asksSubstitute(t, s, long, "", k, wrongText)
				asksSubstitute(t, s, "", long, k, wrongText)
				asksSubstitute(t, s, "y", long, k, wrongText)
				asksSubstitute(t, s, "a", long, k, wrongText)
				asksSubstitute(t, long, long, s, k, wrongText)
			}
		}
	}
}

// P14.3
func TestSubstituteAsTheSecondTellingHasIt(t *testing.T) {
	for _, s := range wordsOver("ab", 6) {
		for _, old := range wordsOver("ab", 3) {
			for _, new := range []string{"", "a", "b", "aa", "bab"} {
				for k := range 5 {
					asksSubstitute(t, s, old, new, k, wantSubstitute(s, old, new, k))
				}
			}
		}
	}
	for _, s := range texts() {
		for _, old := range texts() {
			for _, k := range []int{-1, 0, 1, 2, 127, 255, math.MaxInt} {
				asksSubstitute(t, s, old, "xy", k, wantSubstitute(s, old, "xy", k))
			}
		}
	}
	r := rand.New(rand.NewSource(3))
	for range 20000 {
		s, old, new, k := scattered(r, 120), scattered(r, 3), scattered(r, 5), r.Intn(12)
		asksSubstitute(t, s, old, new, k, wantSubstitute(s, old, new, k))
	}
}
