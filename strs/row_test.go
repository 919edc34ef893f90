package strs

import (
	"math"
	"math/rand"
	"slices"
	"testing"

	"foolscap/api"
)

// P14.4
func TestTrim(t *testing.T) {
	for _, c := range []struct{ s, want string }{
		{"  a  b ", "a b"}, {"", ""}, {" ", ""}, {"  ", ""}, {times(" ", 254), ""}, {times(" ", 255), ""}, {"a", "a"}, {"a b", "a b"}, {" a", "a"}, {"a ", "a"}, {"  a", "a"}, {"a  ", "a"}, {"a  b", "a b"}, {"a   b", "a b"}, {" a b  c   d    ", "a b c d"},
		{"\ta", "\ta"}, {"a\n", "a\n"}, {"\t\t", "\t\t"}, {" \t ", "\t"}, {"a\t\tb", "a\t\tb"}, {"a \t  b", "a \t b"}, {" \v\f\r\n ", "\v\f\r\n"}, {"\x00 ", "\x00"}, {"\xa0a\xa0", "\xa0a\xa0"}, {"\u00a0 \u00a0", "\u00a0 \u00a0"}, {"\u2003a", "\u2003a"}, {"\xff  \xff", "\xff \xff"}, {"\x85 ", "\x85"}, {"\x1f \x21", "\x1f \x21"},
		{times("x", 255), times("x", 255)}, {times("x", 254) + " ", times("x", 254)}, {" " + times("x", 254), times("x", 254)}, {"x" + times(" ", 253) + "x", "x x"}, {times("x ", 127) + "x", times("x ", 127) + "x"}, {times("x  ", 85), times("x ", 84) + "x"},
	} {
		asksTrim(t, c.s, tells(c.want))
	}
	for _, s := range longTexts() {
		asksTrim(t, s, wrongText)
	}
	for _, s := range []string{times(" ", 256), times("x", 255) + " ", " " + times("x", 255), "x" + times(" ", 254) + "x"} {
		asksTrim(t, s, wrongText)
	}
}

// P14.4
func TestTrimAsTheSecondTellingHasIt(t *testing.T) {
	for _, s := range append(wordsOver("a \t", 7), texts()...) {
		asksTrim(t, s, wantTrim(s))
	}
	r := rand.New(rand.NewSource(4))
	for range 10000 {
		s := scattered(r, 255)
		asksTrim(t, s, wantTrim(s))
	}
}

// P14.4
func TestRepeat(t *testing.T) {
	for _, c := range []struct {
		s    string
		n    int
		want string
	}{
		{"ab", 3, "ababab"}, {"ab", 0, ""}, {"ab", 1, "ab"}, {"a", 2, "aa"}, {" ", 3, "   "}, {"\xff", 2, "\xff\xff"}, {"é", 2, "éé"}, {"\x00", 3, "\x00\x00\x00"},
		{"", 0, ""}, {"", 1, ""}, {"", 256, ""}, {"", 1 << 40, ""}, {"", math.MaxInt, ""},
		{"x", 254, times("x", 254)}, {"x", 255, times("x", 255)}, {"xy", 127, times("xy", 127)}, {"abc", 85, times("abc", 85)}, {times("x", 127), 2, times("x", 254)}, {times("x", 255), 0, ""}, {times("x", 255), 1, times("x", 255)}, {times("x", 254), 1, times("x", 254)},
	} {
		asksRepeat(t, c.s, c.n, tells(c.want))
	}
	for _, c := range []struct {
		s string
		n int
	}{
		{"x", 256}, {"x", 257}, {"xy", 128}, {"abc", 86}, {"abcd", 64}, {times("x", 128), 2}, {times("x", 254), 2}, {times("x", 255), 2}, {times("x", 16), 16}, {"x", math.MaxInt}, {"xy", math.MaxInt}, {"xy", 1 << 62}, {"abcd", 1 << 62}, {times("x", 128), 1 << 57}, {times("x", 255), math.MaxInt},
		{"", -1}, {"", math.MinInt}, {"x", -1}, {"x", math.MinInt}, {"xy", math.MinInt}, {"xy", math.MinInt + 1},
		{times("x", 256), 0}, {times("x", 256), 1}, {times("x", 256), -1}, {times("x", 65536), 0},
	} {
		asksRepeat(t, c.s, c.n, wrongText)
	}
}

// P14.4
func TestRepeatAsTheSecondTellingHasIt(t *testing.T) {
	for _, s := range append(texts(), longTexts()...) {
		for _, n := range append(counts(len(s)), 85, 86, 127, 128, 1<<61, 1<<62, 1<<63/255, 1<<63/255+1) {
			asksRepeat(t, s, n, wantRepeat(s, n))
		}
	}
}

// P14.4
func TestJoin(t *testing.T) {
	many := slices.Repeat([]string{""}, 100000)
	for _, c := range []struct {
		l    []string
		want string
	}{
		{nil, ""}, {[]string{}, ""}, {[]string{""}, ""}, {[]string{"", "", ""}, ""}, {many, ""}, {append(many, "a"), "a"}, {[]string{"a"}, "a"}, {[]string{"a", "", "b"}, "ab"}, {[]string{"b", "a"}, "ba"}, {[]string{"ab", " ", "cd", "\xff"}, "ab cd\xff"}, {[]string{"\xc3", "\xa9"}, "é"},
		{[]string{times("x", 254)}, times("x", 254)}, {[]string{times("x", 255)}, times("x", 255)}, {[]string{times("x", 255), "", ""}, times("x", 255)}, {[]string{times("x", 254), "y"}, times("x", 254) + "y"}, {[]string{"y", times("x", 254)}, "y" + times("x", 254)}, {slices.Repeat([]string{"x"}, 255), times("x", 255)}, {slices.Repeat([]string{"x", ""}, 255), times("x", 255)},
	} {
		asksJoin(t, c.l, tells(c.want))
	}
	for _, l := range [][]string{
		{times("x", 255), "y"}, {"y", times("x", 255)}, {times("x", 254), "yy"}, {times("x", 128), times("y", 128)}, {times("x", 255), times("y", 255)}, slices.Repeat([]string{"x"}, 256), slices.Repeat([]string{"x"}, 100000),
		{times("x", 256)}, {"", times("x", 256)}, {times("x", 256), ""}, {"a", times("x", 256), "b"}, {times("x", 65536)}, append(many, times("x", 256)),
	} {
		asksJoin(t, l, wrongText)
	}
}

// P14.4
func TestJoinAsTheSecondTellingHasIt(t *testing.T) {
	r := rand.New(rand.NewSource(5))
	for range 10000 {
		l := make([]string, r.Intn(6))
		for i := range l {
			l[i] = scattered(r, 100)
		}
		asksJoin(t, l, wantJoin(l))
	}
}

// P14.4: what is handed in stays as it is, and so does what stands behind its end.
func TestJoinLeavesItsListAlone(t *testing.T) {
	l := []string{"a", "", "b", "c", times("x", 256)}
	before := slices.Clone(l)
	asksJoin(t, l[:3], tells("ab"))
	asksJoin(t, l, wrongText)
	if !slices.Equal(l, before) {
		t.Errorf("the list is %q", l)
	}
}

// P14.4
func TestLower(t *testing.T) {
	for _, c := range []struct{ s, want string }{
		{"", ""}, {"AbZ{", "abz{"}, {"ABCDEFGHIJKLMNOPQRSTUVWXYZ", "abcdefghijklmnopqrstuvwxyz"}, {"abcdefghijklmnopqrstuvwxyz", "abcdefghijklmnopqrstuvwxyz"}, {"@[`{", "@[`{"}, {"É", "É"}, {"\xc9\xe9", "\xc9\xe9"}, {"A\xc1\xda\xffB", "a\xc1\xda\xffb"}, {"\x00A\x80", "\x00a\x80"}, {"\u212a", "\u212a"}, {"\u0130", "\u0130"}, {"1A-2B", "1a-2b"}, {" A ", " a "},
		{times("X", 254), times("x", 254)}, {times("X", 255), times("x", 255)}, {times("\xff", 255), times("\xff", 255)},
	} {
		asksLower(t, c.s, tells(c.want))
	}
	for _, s := range longTexts() {
		asksLower(t, s, wrongText)
	}
	for i := range 256 {
		b := string([]byte{byte(i)})
		asksLower(t, b, wantLower(b))
		asksLower(t, "Q"+b+"\xd1"+b, wantLower("Q"+b+"\xd1"+b))
	}
	for _, s := range texts() {
		asksLower(t, s, wantLower(s))
	}
}

// P14.5
func TestChar(t *testing.T) {
	for n := 1; n <= 255; n++ {
		if got := asText(Char(n)); got != tells(string([]byte{byte(n)})) {
			t.Errorf("Char(%d) = %#v", n, got)
		}
	}
	for n, want := range map[int]string{1: "\x01", 32: " ", 65: "A", 97: "a", 126: "~", 127: "\x7f", 128: "\x80", 233: "\xe9", 255: "\xff"} {
		if got := asText(Char(n)); got != tells(want) {
			t.Errorf("Char(%d) = %#v", n, got)
		}
	}
	for _, n := range []int{0, -1, -191, -255, -256, 256, 257, 321, 512, 65536, 1 << 32, 1<<32 + 65, math.MaxInt, math.MinInt, math.MinInt + 65} {
		if got := asText(Char(n)); got != wrongText {
			t.Errorf("Char(%d) = %#v", n, got)
		}
	}
}

// P14.5
func TestCode(t *testing.T) {
	for s, want := range map[string]int{"A": 65, "Az": 65, " A": 32, "a": 97, "é": 0xc3, "\xe9": 233, "\x80": 128, "\xffa": 255, "\x00": 0, "\x00a": 0, "\x01": 1, times("x", 254): 120, times("x", 255): 120} {
		if got := asPlace(Code(s)); got != stands(want) {
			t.Errorf("Code(%q) = %+v", s, got)
		}
	}
	for _, s := range append(longTexts(), "") {
		if got := asPlace(Code(s)); got != wrongPlace {
			t.Errorf("Code(%.20q) = %+v", s, got)
		}
	}
}

// P14.5
func TestCodeOfChar(t *testing.T) {
	for n := -2; n <= 300; n++ {
		s, c := Char(n)
		if c != api.None {
			continue
		}
		if got := asPlace(Code(s)); got != stands(n) {
			t.Errorf("Code of Char(%d) = %+v", n, got)
		}
	}
}
