package crit

import (
	"math/rand"
	"strings"
	"testing"
)

// asksLike holds Like against what is wanted and against the second telling.
func asksLike(t *testing.T, pattern, s string, want bool) {
	t.Helper()
	got := Like(pattern, s)
	if got != want {
		t.Errorf("Like(%q, %q) = %v", pattern, s, got)
	}
	if got != wantLike(pattern, s) {
		t.Errorf("Like(%q, %q) = %v, by the second telling %v", pattern, s, got, !got)
	}
}

// likes are, by patterns, texts that are like them and texts that are not.
func likes() []struct {
	pattern  string
	yes, not []string
} {
	return []struct {
		pattern  string
		yes, not []string
	}{
		{"", []string{""}, []string{"a", " ", "\x00", "?", "*", "~"}},
		{"a", []string{"a", "A"}, []string{"", "b", "aa", "a ", " a", "á", "\x61\x00", "!", "\xe1", "\xc1"}},
		{"A.C", []string{"a.c", "A.C"}, []string{"abc", "a.", "a.cc"}},
		{"7", []string{"7"}, []string{"7.0", "07"}},
		{"[a-z]+$", []string{"[A-Z]+$"}, []string{"a", "ab", "[a-z]+"}},

		{"?", []string{"a", "A", "?", "*", "~", " ", "\x00", "\n", "\x80", "\xff"}, []string{"", "aa", "é", "\xff\xff"}},
		{"??", []string{"ab", "??", "é", "\xff\x80"}, []string{"", "a", "abc", "éa"}},
		{"???", []string{"abc", "éa", "世"}, []string{"", "ab", "abcd"}},
		{"?a", []string{"aa", "bA", "?a"}, []string{"a", "ab", "aaa", "?"}},
		{"??a", []string{"xya", "aaa"}, []string{"a", "xa", "xyza", "xyb"}},
		{"a?", []string{"aa", "Ab"}, []string{"a", "ba", "aaa"}},
		{"a??", []string{"axy", "aaa"}, []string{"a", "ax", "axyz"}},
		{"a?b", []string{"axb", "AAB", "a?b", "abb"}, []string{"ab", "axyb", "axc"}},
		{"a??b", []string{"axyb", "abbb"}, []string{"ab", "axb", "axyzb"}},

		{"*", []string{"", "a", "*", "abc", "\xff\x00\n"}, nil},
		{"**", []string{"", "a", "abc"}, nil},
		{"***", []string{"", "a", "abc"}, nil},
		{"*a", []string{"a", "aa", "bA", "aba", "\xffa"}, []string{"", "b", "ab", "aab"}},
		{"**a", []string{"a", "ba", "bba"}, []string{"", "ab"}},
		{"a*", []string{"a", "Aa", "ab", "a*", "a\xff\n"}, []string{"", "b", "ba"}},
		{"a**", []string{"a", "ab", "abc"}, []string{"", "ba"}},
		{"a*b", []string{"ab", "aab", "abb", "axyzB", "abab"}, []string{"", "a", "b", "aba", "bab", "ba"}},
		{"a**b", []string{"ab", "axb", "axyb"}, []string{"a", "aba"}},
		{"a*a", []string{"aa", "aba", "aaa"}, []string{"", "a", "ab", "ba"}},
		{"*a*", []string{"a", "ba", "ab", "bab", "aa"}, []string{"", "b", "bb"}},

		{"*?", []string{"a", "ab", "abc"}, []string{""}},
		{"?*", []string{"a", "ab", "abc"}, []string{""}},
		{"?*?", []string{"ab", "abc"}, []string{"", "a"}},
		{"*?*?*", []string{"ab", "abc"}, []string{"", "a"}},
		{"**??", []string{"ab", "abcd"}, []string{"", "a"}},
		{"*?a", []string{"ba", "aa", "xya"}, []string{"", "a", "ab"}},
		{"a?*", []string{"ab", "abc"}, []string{"", "a", "ba"}},
		{"?b*", []string{"abc", "bb", "xB"}, []string{"", "b", "bc", "aab"}},

		{"~?", []string{"?"}, []string{"", "a", "~", "~?", "~a"}},
		{"~*", []string{"*"}, []string{"", "a", "~", "~*", "~a", "ab"}},
		{"~~", []string{"~"}, []string{"", "~~", "a"}},
		{"~a", []string{"a", "A"}, []string{"", "~a", "~", "b"}},
		{"~Z", []string{"z", "Z"}, []string{"~Z", "~z"}},
		{"~\xe1", []string{"\xe1"}, []string{"\xc1", "~\xe1"}},
		{"~ ", []string{" "}, []string{"~ ", "~", ""}},
		{"~", []string{"~"}, []string{"", "~~", "a"}},
		{"a~", []string{"a~", "A~"}, []string{"a", "a~~", "ab"}},
		{"~~~", []string{"~~"}, []string{"~", "~~~"}},
		{"~~~~", []string{"~~"}, []string{"~", "~~~", "~~~~"}},
		{"~~?", []string{"~a", "~?", "~~"}, []string{"~", "?", "a", "~ab"}},
		{"~~*", []string{"~", "~a", "~*"}, []string{"", "*", "a"}},
		{"~~~?", []string{"~?"}, []string{"~a", "?", "~~?"}},
		{"~~~*", []string{"~*"}, []string{"~", "~a", "~~*"}},
		{"~**", []string{"*", "*a"}, []string{"", "a", "a*"}},
		{"*~*", []string{"*", "a*", "**", "~*"}, []string{"", "a", "*a", "~"}},
		{"*~", []string{"~", "a~", "~~"}, []string{"", "a", "~a"}},
		{"?~", []string{"a~", "~~"}, []string{"", "~", "a", "ab"}},
		{"*~~*", []string{"~", "a~b"}, []string{"", "ab"}},
		{"x~?y*z", []string{"x?yz", "X?Y--Z"}, []string{"xqyz", "x~?yz", "x?y"}},
	}
}

// P13.4
func TestLike(t *testing.T) {
	for _, c := range likes() {
		for _, s := range c.yes {
			asksLike(t, c.pattern, s, true)
		}
		for _, s := range c.not {
			asksLike(t, c.pattern, s, false)
		}
	}
}

// P13.4: a row of any bytes that takes what is behind it first, or nothing, would miss these.
func TestLikeWhereARowTakesMoreOrLess(t *testing.T) {
	for _, c := range []struct {
		pattern, s string
		want       bool
	}{
		{"*ab", "aab", true}, {"*ab", "abab", true}, {"*ab", "aaaaab", true}, {"*ab", "aba", false}, {"*aab", "aaab", true}, {"*aab", "aabaab", true}, {"*aab", "aababab", false}, {"*abab", "ababab", true}, {"*abac", "ababac", true}, {"*abac", "abababac", true}, {"*abac", "abababab", false},
		{"a*a", "aaaa", true}, {"*a", "aaa", true}, {"*a?", "aab", true}, {"*a?", "aa", true}, {"*a?b", "aaab", true}, {"*?b", "bb", true}, {"*?b", "b", false}, {"*a*b", "aabab", true}, {"*a*b", "baab", true}, {"*a*b", "bbaa", false},
		{"*a*b*c", "xxaxxbxxbc", true}, {"*a*b*c", "xxaxxbxxcb", false}, {"*ab*ba*", "abba", true}, {"*ab*ba*", "aba", false}, {"*ab*ba*", "ababa", true}, {"*ab*ab", "abab", true}, {"*ab*ab", "ab", false}, {"*ab*ab", "abxaxab", true}, {"ab*ab", "abab", true}, {"ab*ab", "aab", false}, {"a*ab", "ab", false}, {"a*ab", "aab", true}, {"*aa*aa*", "aaa", false}, {"*aa*aa*", "aaaa", true}, {"*x", strings.Repeat("x", 255), true}, {"*xy", strings.Repeat("x", 254) + "y", true},
	} {
		asksLike(t, c.pattern, c.s, c.want)
	}
}

// P13.4: letters are folded, a to z alone; each other byte stands for itself alone.
func TestLikeByteByByte(t *testing.T) {
	for i := range 256 {
		for j := range 256 {
			a, b := string([]byte{byte(i)}), string([]byte{byte(j)})
			want := i == j || (i|32) == (j|32) && 'a' <= i|32 && i|32 <= 'z'
			if i == '?' || i == '*' {
				asksLike(t, a, b, true)
			} else {
				asksLike(t, a, b, want)
			}
			asksLike(t, "~"+a, b, want)
			asksLike(t, "*~"+a+"?", b+b, want)
		}
	}
}

// P13.4: all short patterns and texts of a few bytes.
func TestLikeOfAllShortOnes(t *testing.T) {
	all := wordsOver("Ab~*", 5)
	for _, pattern := range wordsOver("a?*~", 5) {
		form := library(pattern)
		for _, s := range all {
			if got := Like(pattern, s); got != form.MatchString(wantFold(s)) {
				t.Errorf("Like(%q, %q) = %v", pattern, s, got)
			}
		}
	}
}

// P13.4
func TestLikeOfScatteredOnes(t *testing.T) {
	r, yes := rand.New(rand.NewSource(3)), 0
	for range 40000 {
		pattern, s := scatteredText(r, 8), scatteredText(r, 12)
		want := wantLike(pattern, s)
		asksLike(t, pattern, s, want)
		if want {
			yes++
		}
	}
	if yes < 2000 {
		t.Errorf("%d of the scattered texts are like their patterns", yes)
	}
	for _, pattern := range patterns() {
		for _, s := range texts() {
			asksLike(t, pattern, s, wantLike(pattern, s))
		}
	}
}

// P13.4: patterns and texts may be longer than a value's, and many rows do not take more tries than one.
func TestLikeOfLongOnes(t *testing.T) {
	for _, c := range []struct {
		pattern, s string
		want       bool
	}{
		{strings.Repeat("x", 300), strings.Repeat("X", 300), true}, {strings.Repeat("x", 300), strings.Repeat("x", 301), false}, {strings.Repeat("?", 256), strings.Repeat("x", 256), true}, {strings.Repeat("?", 256), strings.Repeat("x", 255), false},
		{strings.Repeat("*", 1000), "", true}, {strings.Repeat("*", 1000) + "a", "b", false}, {strings.Repeat("~*", 500), strings.Repeat("*", 500), true},
		{strings.Repeat("*a", 100) + "b", strings.Repeat("a", 2000), false}, {strings.Repeat("*a", 100) + "*b", strings.Repeat("a", 2000), false}, {strings.Repeat("a*", 100), strings.Repeat("a", 2000), true}, {strings.Repeat("*a?", 100) + "*b*", strings.Repeat("a", 2000) + "c", false}, {strings.Repeat("?*", 2000), strings.Repeat("a", 1999), false},
		{"*" + strings.Repeat("a", 500) + "b", strings.Repeat("a", 1000), false}, {"*" + strings.Repeat("a", 500) + "b", strings.Repeat("a", 1000) + "b", true},
	} {
		if got := Like(c.pattern, c.s); got != c.want {
			t.Errorf("Like(%.20q.., %.20q..) = %v", c.pattern, c.s, got)
		}
	}
	rows := strings.Repeat("*a", 100000)
	if !Like(rows, strings.Repeat("a", 100000)) || Like(rows, strings.Repeat("a", 99999)) || Like(rows+"b", strings.Repeat("a", 200000)) {
		t.Error("Like of 100000 rows")
	}
}

// P13.4
func TestWild(t *testing.T) {
	for _, s := range []string{"?", "*", "??", "**", "?*", "a?", "?a", "a?a", "a*", "*a", "a*a", "~~?", "~~*", "~??", "~?*", "~*?", "~**", "~a?", "~a*", "*~", "?~", "*~*", "?~?", "~~~~*", "~~~**", "\xff*", "~\xff?", "\n?", strings.Repeat("x", 254) + "*", strings.Repeat("~*", 127) + "*", strings.Repeat("x", 1000) + "?"} {
		if !Wild(s) || !wantWild(s) {
			t.Errorf("Wild(%q) = %v", s, Wild(s))
		}
	}
	for _, s := range []string{"", "a", "~", "~~", "~~~", "~?", "~*", "~a", "a~", "~?~*", "a~?b~*c", "~~~?", "~~~*", "~~~~~*", "~*~", "~?~~", "%", "_", ".", "[a]", "\xff", "\xbf", "\xaa", "\xe2\x81\x8e", "？", "＊", "\x00", " ", "7", "=", "<>", strings.Repeat("x", 255), strings.Repeat("~*", 127), strings.Repeat("~", 255), strings.Repeat("~?", 1000)} {
		if Wild(s) || wantWild(s) {
			t.Errorf("Wild(%q) = %v", s, Wild(s))
		}
	}
	for _, s := range append(wordsOver("a?*~", 6), texts()...) {
		if got := Wild(s); got != wantWild(s) {
			t.Errorf("Wild(%q) = %v", s, got)
		}
	}
}
