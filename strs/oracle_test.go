package strs

import (
	"math"
	"math/rand"
	"regexp"
	"strings"
	"testing"

	"foolscap/api"
	"foolscap/crit"
)

// The tests hold the package against a second telling of the chapter's words, which shares no code with it: bytes are asked one by one for their places, texts are cut by patterns of the library, and each beginning is held against a pattern.

// most is how many bytes a text may have.
const most = 255

type textResult struct {
	s string
	c api.Code
}

type placeResult struct {
	n int
	c api.Code
}

func asText(s string, c api.Code) textResult { return textResult{s, c} }
func asPlace(n int, c api.Code) placeResult  { return placeResult{n, c} }
func tells(s string) textResult              { return textResult{s: s} }
func stands(n int) placeResult               { return placeResult{n: n} }

var (
	wrongText  = textResult{c: api.Wrong}
	wrongPlace = placeResult{c: api.Wrong}
)

// asks holds what a call answers against what is wanted and against the second telling.
func asks[T comparable](t *testing.T, got, want, second T, call string, args ...any) {
	t.Helper()
	if got != want {
		t.Errorf("%s of %#v = %#v, want %#v", call, args, got, want)
	}
	if want != second {
		t.Errorf("%s of %#v = %#v, by the second telling %#v", call, args, want, second)
	}
}

func asksLeft(t *testing.T, s string, n int, want textResult) {
	t.Helper()
	asks(t, asText(Left(s, n)), want, wantLeft(s, n), "Left", s, n)
}

func asksRight(t *testing.T, s string, n int, want textResult) {
	t.Helper()
	asks(t, asText(Right(s, n)), want, wantRight(s, n), "Right", s, n)
}

func asksMid(t *testing.T, s string, at, n int, want textResult) {
	t.Helper()
	asks(t, asText(Mid(s, at, n)), want, wantMid(s, at, n), "Mid", s, at, n)
}

func asksFind(t *testing.T, part, s string, from int, want placeResult) {
	t.Helper()
	asks(t, asPlace(Find(part, s, from)), want, wantFind(part, s, from), "Find", part, s, from)
}

func asksSearch(t *testing.T, pattern, s string, from int, want placeResult) {
	t.Helper()
	asks(t, asPlace(Search(pattern, s, from)), want, wantSearch(pattern, s, from), "Search", pattern, s, from)
}

func asksReplace(t *testing.T, s string, at, n int, u string, want textResult) {
	t.Helper()
	asks(t, asText(Replace(s, at, n, u)), want, wantReplace(s, at, n, u), "Replace", s, at, n, u)
}

func asksSubstitute(t *testing.T, s, old, new string, k int, want textResult) {
	t.Helper()
	asks(t, asText(Substitute(s, old, new, k)), want, wantSubstitute(s, old, new, k), "Substitute", s, old, new, k)
}

func asksTrim(t *testing.T, s string, want textResult) {
	t.Helper()
	asks(t, asText(Trim(s)), want, wantTrim(s), "Trim", s)
}

func asksRepeat(t *testing.T, s string, n int, want textResult) {
	t.Helper()
	asks(t, asText(Repeat(s, n)), want, wantRepeat(s, n), "Repeat", s, n)
}

func asksJoin(t *testing.T, l []string, want textResult) {
	t.Helper()
	asks(t, asText(Join(l)), want, wantJoin(l), "Join", l)
}

func asksLower(t *testing.T, s string, want textResult) {
	t.Helper()
	asks(t, asText(Lower(s)), want, wantLower(s), "Lower", s)
}

// limited tells a text that may be too long.
func limited(s string) textResult {
	if len(s) > most {
		return wrongText
	}
	return tells(s)
}

// anyLong tells whether one of some texts is too long.
func anyLong(all ...string) bool {
	for _, s := range all {
		if len(s) > most {
			return true
		}
	}
	return false
}

// kept tells the bytes of a text at the places that are wanted.
func kept(s string, wanted func(place int) bool) string {
	var out []byte
	for i := range len(s) {
		if wanted(i + 1) {
			out = append(out, s[i])
		}
	}
	return string(out)
}

// within tells whether a place is one of the n from at on.
func within(place, at, n int) bool { return place >= at && place-at < n }

func wantLeft(s string, n int) textResult {
	if n < 0 || anyLong(s) {
		return wrongText
	}
	return tells(kept(s, func(place int) bool { return place <= n }))
}

func wantRight(s string, n int) textResult {
	if n < 0 || anyLong(s) {
		return wrongText
	}
	return tells(kept(s, func(place int) bool { return len(s)-place < n }))
}

func wantMid(s string, at, n int) textResult {
	if at < 1 || n < 0 || anyLong(s) {
		return wrongText
	}
	return tells(kept(s, func(place int) bool { return within(place, at, n) }))
}

// wantPlaced asks each place from one on, and each beginning of what stands there.
func wantPlaced(asked, s string, from int, isAsked func(beginning string) bool) placeResult {
	if from < 1 || from > len(s)+1 || anyLong(asked, s) {
		return wrongPlace
	}
	for place := from; place <= len(s)+1; place++ {
		for end := place; end <= len(s)+1; end++ {
			if isAsked(s[place-1 : end-1]) {
				return stands(place)
			}
		}
	}
	return wrongPlace
}

func wantFind(part, s string, from int) placeResult {
	return wantPlaced(part, s, from, func(beginning string) bool { return beginning == part })
}

func wantSearch(pattern, s string, from int) placeResult {
	return wantPlaced(pattern, s, from, func(beginning string) bool { return crit.Like(pattern, beginning) })
}

func wantReplace(s string, at, n int, t string) textResult {
	if at < 1 || n < 0 || anyLong(s, t) {
		return wrongText
	}
	front := kept(s, func(place int) bool { return place < at })
	end := kept(s, func(place int) bool { return place >= at && !within(place, at, n) })
	return limited(front + t + end)
}

// bytewise tells a text with a rune for each byte, so that a pattern of the library goes by bytes.
func bytewise(s string) string {
	runes := make([]rune, len(s))
	for i := range len(s) {
		runes[i] = rune(s[i])
	}
	return string(runes)
}

// backward tells the bytes again.
func backward(s string) string {
	var bytes []byte
	for _, r := range s {
		bytes = append(bytes, byte(r))
	}
	return string(bytes)
}

func wantSubstitute(s, old, new string, k int) textResult {
	if k < 0 || anyLong(s, old, new) {
		return wrongText
	}
	if old == "" {
		return tells(s)
	}
	count := 0
	return limited(backward(regexp.MustCompile(regexp.QuoteMeta(bytewise(old))).ReplaceAllStringFunc(bytewise(s), func(found string) string {
		count++
		if k == 0 || count == k {
			return bytewise(new)
		}
		return found
	})))
}

var (
	rowOfBlanks = regexp.MustCompile(`\x20+`)
	endBlanks   = regexp.MustCompile(`^\x20|\x20$`)
)

func wantTrim(s string) textResult {
	if anyLong(s) {
		return wrongText
	}
	return tells(backward(endBlanks.ReplaceAllString(rowOfBlanks.ReplaceAllString(bytewise(s), "\x20"), "")))
}

func wantRepeat(s string, n int) textResult {
	if n < 0 || anyLong(s) || s != "" && n > most {
		return wrongText
	}
	return limited(strings.Repeat(s, min(n, most)))
}

func wantJoin(l []string) textResult {
	return limited(strings.Join(l, ""))
}

func wantLower(s string) textResult {
	if anyLong(s) {
		return wrongText
	}
	return tells(backward(strings.Map(func(r rune) rune {
		if i := strings.IndexRune("ABCDEFGHIJKLMNOPQRSTUVWXYZ", r); i >= 0 {
			return rune("abcdefghijklmnopqrstuvwxyz"[i])
		}
		return r
	}, bytewise(s))))
}

// times tells a text again and again.
func times(s string, n int) string { return strings.Repeat(s, n) }

// texts are such at which something turns.
func texts() []string {
	return []string{
		"", "a", "b", "A", "Z", "ab", "ba", "aa", "aaa", "aaaa", "abc", "abcb", "abab", "ababa", "abcdef", "ABCDEF", "aXbXc", "axxb", "@[`{", "AbZ{",
		" ", "  ", "   ", " a", "a ", " a ", "a b", "a  b", "  a  b ", " a b  c   d ", "\ta\t", "\n", " \n ", "a\t b", "\u00a0a", "\v\f\r ", "\x00", "a\x00b", " \x00 ",
		"?", "*", "~", "~~", "a?", "a*", "a~", "a~b", "~?", "~*", "?a", "*a", "a?c", "a*c", "?c*", "~a", "~~~",
		"é", "É", "\xe9", "\xc9", "\xc3", "\xa9", "\xff", "\x80", "\xff\xff", "a\xffb", "世界", "7", "-7.5", "TRUE", "#N/A",
		times("x", 253), times("x", 254), times("x", most), times(" ", 254), times(" ", most), times("X", most), times("ab", 127), times("aab", 85), times("\xff", most), times("x ", 127) + "x", " " + times("x", 253) + " ",
	}
}

// longTexts are too long.
func longTexts() []string {
	return []string{times("x", 256), times(" ", 256), times("a ", 128), times("\xff", 256), times("é", 128), times("*", 256), times("x", 257), times("x", 511), times("x", 512), times("x", 65536)}
}

// counts are such at which something turns, for texts of so many bytes.
func counts(length int) []int {
	return []int{math.MinInt, math.MinInt + 1, -1 << 32, -257, -256, -most, -length - 1, -length, -2, -1, 0, 1, 2, 3, length - 1, length, length + 1, length + 2, 253, 254, most, 256, 257, 1<<31 - 1, 1 << 31, 1 << 32, 1<<32 + 1, math.MaxInt - most, math.MaxInt - 1, math.MaxInt}
}

// scattered tells a text of few different bytes.
func scattered(r *rand.Rand, longest int) string {
	from := []string{"a", "ab", "aAbB", "a ", " ", "ab?*~", "a~", "*a", "?a", "a\xff\x80 \x00", "\t\n \xa0"}[r.Intn(11)]
	out := make([]byte, r.Intn(1+longest))
	for i := range out {
		out[i] = from[r.Intn(len(from))]
	}
	return string(out)
}

// wordsOver tells all texts of at most so many bytes, each one of some.
func wordsOver(bytes string, longest int) []string {
	out, ends := []string{""}, []string{""}
	for range longest {
		var next []string
		for _, s := range ends {
			for i := range len(bytes) {
				next = append(next, s+bytes[i:i+1])
			}
		}
		out, ends = append(out, next...), next
	}
	return out
}
