package crit

import (
	"math"
	"math/rand"
	"regexp"
	"strings"

	"foolscap/api"
	"foolscap/value"
)

// The tests hold the package against a second telling of the chapter's words, which shares no code with it: texts are cut by patterns of the library, and what a pattern stands for is told by one of these.

const (
	unit = 1000000
	most = 1000000000000000000
)

var blank = api.Value{}

func numberOf(n int) api.Value     { return api.Value{Kind: api.Num, N: n} }
func textOf(s string) api.Value    { return api.Value{Kind: api.Text, S: s} }
func truthOf(b bool) api.Value     { return api.Value{Kind: api.Bool, B: b} }
func faultOf(c api.Code) api.Value { return api.Value{Kind: api.Fault, Code: c} }

func critOf(sign string, v api.Value) api.Crit { return api.Crit{Sign: sign, Value: v} }

type ofResult struct {
	c    api.Crit
	code api.Code
}

func asOf(c api.Crit, code api.Code) ofResult    { return ofResult{c, code} }
func wantCrit(sign string, v api.Value) ofResult { return ofResult{c: critOf(sign, v)} }
func allSigns() []string                         { return []string{"=", "<>", "<", ">", "<=", ">="} }

var (
	signForm  = regexp.MustCompile(`^(?s)(<=|<>|>=|[=<>]|)(.*)$`)
	plainForm = regexp.MustCompile(`^(?s)(?:~.|[^~?*])*~?$`)
	stepForm  = regexp.MustCompile(`(?s)~.|.`)
)

// bytewise tells a text with a rune for each byte, so that a pattern of the library goes by bytes.
func bytewise(s string) string {
	runes := make([]rune, len(s))
	for i := range len(s) {
		runes[i] = rune(s[i])
	}
	return string(runes)
}

// backward tells the bytes again.
func backward(s string) string {
	var bytes []byte
	for _, r := range s {
		bytes = append(bytes, byte(r))
	}
	return string(bytes)
}

func wantFold(s string) string {
	return strings.Map(func(r rune) rune {
		if 'a' <= r && r <= 'z' {
			return r - 'a' + 'A'
		}
		return r
	}, s)
}

func wantWild(s string) bool { return !plainForm.MatchString(bytewise(s)) }

// compiled keeps what library told, since the tests ask for the same patterns many times.
var compiled = map[string]*regexp.Regexp{}

// library tells a pattern as one of the library, for texts told bytewise and folded.
func library(pattern string) *regexp.Regexp {
	if made := compiled[pattern]; made != nil {
		return made
	}
	out := `^(?s)`
	for _, part := range stepForm.FindAllString(wantFold(bytewise(pattern)), -1) {
		switch {
		case part == "?":
			out += "."
		case part == "*":
			out += ".*"
		default:
			if runes := []rune(part); len(runes) == 2 {
				part = string(runes[1])
			}
			out += regexp.QuoteMeta(part)
		}
	}
	compiled[pattern] = regexp.MustCompile(out + "$")
	return compiled[pattern]
}

func wantLike(pattern, s string) bool {
	return library(pattern).MatchString(wantFold(bytewise(s)))
}

// unescaped tells what a text that is not wild stands for.
func unescaped(s string) string {
	return backward(stepForm.ReplaceAllStringFunc(bytewise(s), func(part string) string {
		if len([]rune(part)) == 2 {
			return string([]rune(part)[1])
		}
		return part
	}))
}

func wantOf(v api.Value) ofResult {
	if value.Check(v) != api.OK {
		return ofResult{code: api.Wrong}
	}
	if v.Kind != api.Text {
		return wantCrit("=", v)
	}
	m := signForm.FindStringSubmatch(v.S)
	if m[1] == "" {
		m[1] = "="
	}
	asked, e := value.Read(m[2])
	if e != api.OK {
		return ofResult{code: api.Wrong}
	}
	return wantCrit(m[1], asked)
}

func wantCheck(c api.Crit) api.Errno {
	if signs := " = <> < > <= >= "; c.Sign == "" || strings.Contains(c.Sign, " ") || !strings.Contains(signs, " "+c.Sign+" ") {
		return api.ErrArg
	}
	return value.Check(c.Value)
}

func wantEqual(asked, v api.Value) bool {
	switch {
	case asked.Kind != v.Kind:
		return false
	case asked.Kind != api.Text:
		return asked == v
	case wantWild(asked.S):
		return wantLike(asked.S, v.S)
	}
	return wantFold(bytewise(unescaped(asked.S))) == wantFold(bytewise(v.S))
}

func wantFits(c api.Crit, v api.Value) bool {
	if wantCheck(c) != api.OK || value.Check(v) != api.OK {
		return false
	}
	switch c.Sign {
	case "=":
		return wantEqual(c.Value, v)
	case "<>":
		return !wantEqual(c.Value, v)
	}
	if v.Kind != c.Value.Kind || v.Kind == api.Blank || v.Kind == api.Fault {
		return false
	}
	order, _ := value.Compare(v, c.Value)
	return strings.Contains(c.Sign, string("<=>"[order+1]))
}

// patterns are such at which something turns.
func patterns() []string {
	out := []string{
		"", "a", "A", "b", "ab", "aB", "abc", "z", "Z", "é", "\x80", "\xff", "\xc3\xa9", "[", "]", "^", "$", ".", "a.", "\\", "\\*", "%", "_", "\x00", "\n", "@", "`", "{", " ", " a", "a ", "7", "007", "7.5", "TRUE", "#N/A",
		"?", "??", "???", "?a", "a?", "a?a", "?a?", "??a", "a??", "a??b", "? ?", "?\xff", "\xff?",
		"*", "**", "***", "*a", "a*", "a*a", "*a*", "**a", "a**", "a**b", "*a*a*", "*ab", "*ab*", "*aab", "*aab*", "*abab*", "*a*b*c", "a*b*a", "*\xff", "\xff*", "*\n*",
		"*?", "?*", "?*?", "*?*", "**??", "??**", "*?a", "a?*", "?*a", "*a?", "?b*", "*b?", "*?b?*",
		"~", "~~", "~~~", "~~~~", "~?", "~*", "~a", "~A", "~z", "~Z", "~\xff", "~\x00", "~ ", "~7", "a~", "a~~", "a~~~", "~a~", "~?~", "~*~", "a~*", "A~*", "a~?", "a~*b", "a~b", "~~a", "~~?", "~~*", "~~~?", "~~~*", "~?*", "~*?", "?~", "*~", "*~?", "*~*", "?~?", "~*~*", "*~~", "*~~*", "?~~?", "~a*", "~a~*", "~[", "~\\", "*~*~", "x~?y*z",
	}
	return append(out, strings.Repeat("x", 254), strings.Repeat("x", 255), strings.Repeat("x", 254)+"*", strings.Repeat("?", 255), strings.Repeat("*", 255), strings.Repeat("~", 254), strings.Repeat("~", 255), strings.Repeat("~x", 127)+"~", strings.Repeat("~*", 127), strings.Repeat("*x", 127), strings.Repeat("?*", 127))
}

// texts are such at which something turns, beside patterns.
func texts() []string {
	return append(patterns(),
		"aa", "aaa", "aaaa", "aab", "aaab", "aabaab", "abab", "ababab", "abcabc", "aabb", "axb", "axyb", "ba", "bab", "cab", "abcb", "Abc", "ABC", "aXa", "xxaxxbxxbc", "xxaxxbxxcb", "a*", "a*b", "a?", "a~b", "*?", "x?yz", "x?y_z", "xqyz",
		"\xc1", "\xe1", "\xe1a", "É", "éé", "\xff\xff", "\x80\xff", "\n\n", "a\nb", "  ", "0", "-0", "5", "5.0", "-5", "1000000000000", "1000000000001", "FALSE", "true", "#n/a", "#DIV/0!", "=", "<", ">", "<=", ">=", "<>", "=5", "<>a",
		strings.Repeat("X", 255), strings.Repeat("x", 253)+"y", strings.Repeat("x", 254)+"y", strings.Repeat("\xff", 255), strings.Repeat("yx", 127), strings.Repeat("y", 127), strings.Repeat("~", 127), strings.Repeat("~", 128), strings.Repeat("X", 127)+"~", strings.Repeat("*", 127),
	)
}

func longTexts() []string {
	return []string{strings.Repeat("x", 256), strings.Repeat("x", 300), strings.Repeat("\xff", 256), strings.Repeat("0", 256), strings.Repeat(" ", 256), strings.Repeat("*", 256), "=" + strings.Repeat("x", 255), "<>" + strings.Repeat("x", 254), ">=" + strings.Repeat("7", 254), strings.Repeat("x", 1000)}
}

func numbers() []int {
	out := []int{0}
	for _, n := range []int{1, 2, 499999, 999999, unit, unit + 1, 5*unit - 1, 5 * unit, 5*unit + 1, 7 * unit, 7500000, 123456789, most - 1, most} {
		out = append(out, n, -n)
	}
	return out
}

// rightValues are values of each kind.
func rightValues() []api.Value {
	out := []api.Value{blank, truthOf(false), truthOf(true)}
	for _, n := range numbers() {
		out = append(out, numberOf(n))
	}
	for _, s := range texts() {
		out = append(out, textOf(s))
	}
	for code := api.Div; code <= api.Cycle; code++ {
		out = append(out, faultOf(code))
	}
	return out
}

// wrongValues are no values: each kind with something too far, or with what it does not have, and such that are of no kind.
func wrongValues() []api.Value {
	out := []api.Value{
		numberOf(most + 1), numberOf(-most - 1), numberOf(math.MaxInt), numberOf(math.MinInt),
		faultOf(0), faultOf(-1), faultOf(8), faultOf(math.MaxInt),
		{N: 1}, {S: "a"}, {B: true}, {Code: 1}, {Kind: 1, S: "a"}, {Kind: 1, B: true}, {Kind: 1, Code: 1}, {Kind: 2, N: 1}, {Kind: 2, S: "a", N: 1}, {Kind: 2, S: "a*", B: true}, {Kind: 2, Code: 1}, {Kind: 3, N: 1}, {Kind: 3, B: true, S: "TRUE"}, {Kind: 3, Code: 2}, {Kind: 4, N: 1, Code: 1}, {Kind: 4, S: "#N/A", Code: 6}, {Kind: 4, B: true, Code: 1},
		{Kind: -1}, {Kind: 5}, {Kind: 5, N: 1}, {Kind: 258, S: "a"}, {Kind: math.MaxInt}, {Kind: math.MinInt},
	}
	for _, s := range longTexts() {
		out = append(out, textOf(s))
	}
	return out
}

// wrongSigns are no signs.
func wrongSigns() []string {
	return []string{"", " ", "==", "=<", "=>", "><", "<<", ">>", "<>=", "<=>", "<==", ">==", "<=<", "!=", "!", "~", "*", "?", "= ", " =", "<> ", " <>", "< =", "> =", "=\x00", "\x00", "=5", "<a", "≠", "≤", "＝", "eq", "\xff", strings.Repeat("=", 300)}
}

// scatteredText tells a text of bytes such as make patterns, or nearly.
func scatteredText(r *rand.Rand, longest int) string {
	from := []string{"aA", "abAB*?~", "aab*", "a?*", "ab~", "~*?", "a\xff\x80\x00\n*?~", "<>=5a", "0123456789.-"}[r.Intn(9)]
	out := make([]byte, r.Intn(1+longest))
	for i := range out {
		out[i] = from[r.Intn(len(from))]
	}
	return string(out)
}

// wordsOver tells all texts of at most so many bytes, each one of some.
func wordsOver(bytes string, longest int) []string {
	out, ends := []string{""}, []string{""}
	for range longest {
		var next []string
		for _, s := range ends {
			for i := range len(bytes) {
				next = append(next, s+bytes[i:i+1])
			}
		}
		out, ends = append(out, next...), next
	}
	return out
}
