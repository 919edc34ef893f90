package strs

import (
	"math"
	"math/rand"
	"testing"
)

// P14.2
func TestFind(t *testing.T) {
	for _, c := range []struct {
		part, s  string
		from, at int
	}{
		{"b", "abcb", 3, 4}, {"b", "abcb", 1, 2}, {"b", "abcb", 2, 2}, {"b", "abcb", 4, 4}, {"a", "abcb", 1, 1}, {"c", "abcb", 1, 3}, {"cb", "abcb", 1, 3}, {"ab", "abcb", 1, 1}, {"abcb", "abcb", 1, 1},
		{"", "abc", 1, 1}, {"", "abc", 2, 2}, {"", "abc", 3, 3}, {"", "abc", 4, 4}, {"", "", 1, 1},
		{"aa", "aaaa", 1, 1}, {"aa", "aaaa", 2, 2}, {"aa", "aaaa", 3, 3}, {"aba", "ababa", 1, 1}, {"aba", "ababa", 2, 3}, {"aab", "aaab", 1, 2}, {"abac", "ababac", 1, 3},
		{"\xa9", "aé", 1, 3}, {"\xff", "a\xff", 1, 2}, {"\x80\xff", "\xff\x80\xff", 1, 2}, {"\x00", "a\x00", 1, 2}, {"é", "eé", 1, 2}, {" ", "a b", 1, 2}, {"A", "aA", 1, 2},
		{"?", "a?", 1, 2}, {"*", "a*", 1, 2}, {"~", "a~", 1, 2}, {"~?", "?~?", 1, 2}, {"a*", "aba*", 1, 3},
		{"x", times("x", 255), 255, 255}, {"", times("x", 255), 256, 256}, {"y", times("x", 254) + "y", 1, 255}, {times("x", 255), times("x", 255), 1, 1}, {times("x", 254), times("x", 255), 2, 2}, {times("x", 254), times("x", 254), 1, 1},
	} {
		asksFind(t, c.part, c.s, c.from, stands(c.at))
	}
}

// P14.2
func TestFindOfWhatIsNot(t *testing.T) {
	for _, c := range []struct {
		part, s string
		from    int
	}{
		{"a", "", 1}, {"d", "abc", 1}, {"a", "abc", 2}, {"c", "abc", 4}, {"B", "abc", 1}, {"b", "ABC", 1}, {"abcd", "abc", 1}, {"abc", "abc", 2}, {"ac", "abc", 1}, {"aa", "aaaa", 4}, {"aa", "a", 1}, {"a?", "abc", 1}, {"*", "abc", 1}, {"~?", "a?", 1}, {"~a", "a", 1}, {"\xe9", "é", 1}, {"É", "é", 1}, {"\xdf", "\xff", 1}, {"\t", " ", 1},
		{"x", times("x", 255), 256}, {"y", times("x", 255), 1}, {times("x", 255), times("x", 254), 1}, {times("x", 255), times("x", 255), 2}, {times("x", 255), "", 1},
	} {
		asksFind(t, c.part, c.s, c.from, wrongPlace)
	}
}

// P14.2
func TestSearch(t *testing.T) {
	for _, c := range []struct {
		pattern, s string
		from, at   int
	}{
		{"?c*", "abc", 1, 2}, {"b", "abc", 1, 2}, {"B", "abc", 1, 2}, {"b", "ABC", 1, 2}, {"b", "abcb", 3, 4}, {"abc", "ABC", 1, 1}, {"bc", "abc", 1, 2}, {"c", "abc", 3, 3},
		{"", "abc", 1, 1}, {"", "abc", 3, 3}, {"", "abc", 4, 4}, {"", "", 1, 1}, {"*", "abc", 1, 1}, {"*", "abc", 2, 2}, {"*", "abc", 4, 4}, {"*", "", 1, 1}, {"**", "", 1, 1}, {"**", "ab", 3, 3},
		{"?", "abc", 1, 1}, {"?", "abc", 3, 3}, {"??", "abc", 1, 1}, {"??", "abc", 2, 2}, {"???", "abc", 1, 1}, {"b?", "abc", 1, 2}, {"?b", "bab", 1, 2}, {"?\xff", "\xff\xff", 1, 1},
		{"a*", "ba", 1, 2}, {"*a", "bba", 1, 1}, {"*a", "aba", 2, 2}, {"a*b", "xaxxb", 1, 2}, {"b*", "abc", 1, 2}, {"*c", "abc", 3, 3}, {"a*a", "abab", 1, 1}, {"*?", "a", 1, 1}, {"?*", "ab", 2, 2}, {"a?*", "aab", 2, 2}, {"*b*", "abc", 1, 1},
		{"~?", "a?", 1, 2}, {"~*", "a*", 1, 2}, {"~~", "a~", 1, 2}, {"~a", "ba", 1, 2}, {"~A", "ba", 1, 2}, {"a~*", "aba*", 1, 3}, {"~?~*", "?a?*", 1, 3}, {"~**", "ab*c", 1, 3}, {"?~?", "a?b?", 2, 3},
		{"~", "a~", 1, 2}, {"~", "~*", 1, 1}, {"~", "*~*", 1, 2}, {"a~", "aba~", 1, 3}, {"a~", "a*a~b", 1, 3}, {"a~", "a~~", 1, 1}, {"~~~", "~a~~", 1, 3}, {"~~~", "~~*", 1, 1}, {"*~", "ab~", 1, 1}, {"?~", "~a~", 1, 2}, {"~?~", "??~", 1, 2}, {"~~", "~*", 1, 1}, {"a~~", "a*a~", 1, 3},
		{"\xc3", "é", 1, 1}, {"\xe9", "\xc9\xe9", 1, 2}, {"\x00", "a\x00", 1, 2}, {" b", "a b", 1, 2},
		{"y", times("x", 254) + "Y", 1, 255}, {times("x", 255), times("X", 255), 1, 1}, {times("?", 254), times("x", 255), 1, 1}, {times("?", 255), times("x", 255), 1, 1}, {times("*", 255), times("x", 255), 256, 256}, {times("*x", 127) + "*", times("x", 255), 1, 1}, {times("~", 255), times("~", 128), 1, 1}, {times("~", 255), "*" + times("~", 128), 1, 2}, {times("~", 254), times("~", 128), 2, 2}, {times("x", 254) + "~", times("x", 254) + "~", 1, 1}, {times("x", 254) + "*", times("x", 254), 1, 1},
	} {
		asksSearch(t, c.pattern, c.s, c.from, stands(c.at))
	}
}

// P14.2
func TestSearchOfWhatIsNot(t *testing.T) {
	for _, c := range []struct {
		pattern, s string
		from       int
	}{
		{"c?", "abc", 1}, {"d", "abc", 1}, {"a", "abc", 2}, {"a*", "abc", 2}, {"?", "", 1}, {"?", "abc", 4}, {"??", "a", 1}, {"??", "abc", 3}, {"*?", "", 1}, {"a", "", 1}, {"abcd", "abc", 1}, {"*d", "abc", 1}, {"a*d", "abc", 1}, {"b*a", "abc", 1}, {"*a", "abc", 2},
		{"~?", "abc", 1}, {"~*", "abc", 1}, {"~~", "abc", 1}, {"~", "abc", 1}, {"~", "a*", 1}, {"~", "", 1}, {"a~", "a", 1}, {"a~", "a*", 1}, {"a~", "ab", 1}, {"?~", "~a", 1}, {"*~", "a*", 1}, {"~~~", "~*", 1}, {"~~~", "~", 1}, {"~?~", "?*", 1}, {"~b", "a~", 1},
		{"\xe9", "\xc9", 1}, {"é", "É", 1}, {"{", "[", 1}, {"@", "`", 1}, {"\t", " ", 1},
		{"y*", times("x", 255), 1}, {times("?", 255), times("x", 254), 1}, {times("?", 255), times("x", 255), 2}, {times("*a", 127) + "b", times("a", 255), 1}, {times("~", 255), times("~", 127), 1}, {times("x", 254) + "~", times("x", 254) + "*", 1}, {times("x", 254) + "~", times("x", 255), 1}, {times("x", 255), "", 1},
	} {
		asksSearch(t, c.pattern, c.s, c.from, wrongPlace)
	}
}

// P14.2: from is from 1 to one behind the last byte, for what stands everywhere too.
func TestFromAtTheEndsOfWhatIsAllowed(t *testing.T) {
	for _, s := range texts() {
		for _, asked := range []string{"", "*", "**", "?*", "a"} {
			for _, from := range []int{math.MinInt, -256, -1, 0, len(s) + 2, len(s) + 3, 258, 1 << 32, math.MaxInt - 1, math.MaxInt} {
				asksFind(t, asked, s, from, wrongPlace)
				asksSearch(t, asked, s, from, wrongPlace)
			}
		}
		for _, from := range []int{1, len(s)/2 + 1, len(s), len(s) + 1} {
			if from < 1 {
				continue
			}
			asksFind(t, "", s, from, stands(from))
			asksSearch(t, "", s, from, stands(from))
			asksSearch(t, "*", s, from, stands(from))
		}
	}
}

// P14.2
func TestPlacesInTextsTooLong(t *testing.T) {
	for _, long := range longTexts() {
		for _, from := range []int{-1, 0, 1, 2, len(long), len(long) + 1, math.MaxInt} {
			for _, other := range []string{"", "x", "*", times("x", 255), long} {
				asksFind(t, long, other, from, wrongPlace)
				asksFind(t, other, long, from, wrongPlace)
				asksSearch(t, long, other, from, wrongPlace)
				asksSearch(t, other, long, from, wrongPlace)
			}
		}
	}
}

// P14.2
func TestPlacesOfAllShortOnes(t *testing.T) {
	all := wordsOver("aB~*", 4)
	for _, asked := range wordsOver("a?*~", 3) {
		for _, s := range all {
			for from := range len(s) + 3 {
				asksFind(t, asked, s, from, wantFind(asked, s, from))
				asksSearch(t, asked, s, from, wantSearch(asked, s, from))
			}
		}
	}
}

// P14.2
func TestPlacesAsTheSecondTellingHasThem(t *testing.T) {
	r, found := rand.New(rand.NewSource(1)), 0
	for range 20000 {
		asked, s := scattered(r, 5), scattered(r, 20)
		from := r.Intn(len(s)+4) - 1
		asksFind(t, asked, s, from, wantFind(asked, s, from))
		want := wantSearch(asked, s, from)
		asksSearch(t, asked, s, from, want)
		if want != wrongPlace && want.n > from {
			found++
		}
	}
	if found < 500 {
		t.Errorf("%d of the scattered patterns stand further on", found)
	}
	for _, s := range texts() {
		for _, asked := range texts() {
			asksFind(t, asked, s, 1, wantFind(asked, s, 1))
			if len(s) < 100 { // of longer ones the second telling takes long
				asksSearch(t, asked, s, 1, wantSearch(asked, s, 1))
			}
		}
	}
}
