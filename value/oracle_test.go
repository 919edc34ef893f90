package value

import (
	"bytes"
	"math"
	"math/big"
	"math/rand"
	"regexp"
	"strings"

	"foolscap/api"
)

// The tests hold the package against a second telling of the chapter's words, which shares no code with it.

const most = api.MaxNum

var (
	blank   = api.Value{}
	numeral = regexp.MustCompile(`^-?[0-9]+(\.[0-9]{1,6})?$`)
)

func numberOf(n int) api.Value     { return api.Value{Kind: api.Num, N: n} }
func textOf(s string) api.Value    { return api.Value{Kind: api.Text, S: s} }
func truthOf(b bool) api.Value     { return api.Value{Kind: api.Bool, B: b} }
func faultOf(c api.Code) api.Value { return api.Value{Kind: api.Fault, Code: c} }

// faultNames are the names by the codes, as the chapter writes them.
func faultNames() map[api.Code]string {
	return map[api.Code]string{1: "#DIV/0!", 2: "#VALUE!", 3: "#REF!", 4: "#NAME?", 5: "#NUM!", 6: "#N/A", 7: "#CYCLE!"}
}

type intResult struct {
	n int
	c api.Code
}

type textResult struct {
	s string
	c api.Code
}

type boolResult struct {
	b bool
	c api.Code
}

type shownResult struct {
	s string
	e api.Errno
}

type readResult struct {
	v api.Value
	e api.Errno
}

func asInt(n int, c api.Code) intResult          { return intResult{n, c} }
func asText(s string, c api.Code) textResult     { return textResult{s, c} }
func asBool(b bool, c api.Code) boolResult       { return boolResult{b, c} }
func asShown(s string, e api.Errno) shownResult  { return shownResult{s, e} }
func asRead(v api.Value, e api.Errno) readResult { return readResult{v, e} }

// wantFold turns small letters over one by one.
func wantFold(s string) string {
	var out []byte
	for _, c := range []byte(s) {
		if i := bytes.IndexByte([]byte("abcdefghijklmnopqrstuvwxyz"), c); i >= 0 {
			c = "ABCDEFGHIJKLMNOPQRSTUVWXYZ"[i]
		}
		out = append(out, c)
	}
	return string(out)
}

// wantParse reads a number by a pattern and as a fraction.
func wantParse(s string) (int, bool) {
	if len(s) > 40 || !numeral.MatchString(s) {
		return 0, false
	}
	r, ok := new(big.Rat).SetString(s)
	if !ok {
		return 0, false
	}
	r.Mul(r, big.NewRat(1000000, 1))
	if !r.IsInt() || r.Num().CmpAbs(big.NewInt(most)) > 0 {
		return 0, false
	}
	return int(r.Num().Int64()), true
}

// wantPrint writes a number as a fraction, less the noughts at its end.
func wantPrint(n int) string {
	return strings.TrimSuffix(strings.TrimRight(big.NewRat(int64(n), 1000000).FloatString(6), "0"), ".")
}

func wantNumber(v api.Value) intResult {
	switch v.Kind {
	case 1:
		return intResult{n: v.N}
	case 2:
		if n, ok := wantParse(v.S); ok {
			return intResult{n: n}
		}
		return intResult{c: 2}
	case 3:
		return map[bool]intResult{true: {n: 1000000}, false: {}}[v.B]
	case 4:
		return intResult{c: v.Code}
	}
	return intResult{}
}

func wantWords(v api.Value) textResult {
	switch v.Kind {
	case 1:
		return textResult{s: wantPrint(v.N)}
	case 2:
		return textResult{s: v.S}
	case 3:
		return textResult{s: map[bool]string{true: "TRUE", false: "FALSE"}[v.B]}
	case 4:
		return textResult{c: v.Code}
	}
	return textResult{}
}

func wantTruth(v api.Value) boolResult {
	switch v.Kind {
	case 1:
		return boolResult{b: v.N < 0 || v.N > 0}
	case 2:
		if b, ok := map[string]bool{"TRUE": true, "FALSE": false}[wantFold(v.S)]; ok {
			return boolResult{b: b}
		}
		return boolResult{c: 2}
	case 3:
		return boolResult{b: v.B}
	case 4:
		return boolResult{c: v.Code}
	}
	return boolResult{}
}

// wantCompare compares right values.
func wantCompare(a, b api.Value) intResult {
	for _, v := range []api.Value{a, b} {
		if v.Kind == 4 {
			return intResult{c: v.Code}
		}
	}
	switch pair := [2]api.Kind{a.Kind, b.Kind}; pair {
	case [2]api.Kind{0, 0}:
		return intResult{}
	case [2]api.Kind{1, 1}, [2]api.Kind{0, 1}, [2]api.Kind{1, 0}:
		return intResult{n: big.NewInt(int64(a.N)).Cmp(big.NewInt(int64(b.N)))}
	case [2]api.Kind{2, 2}, [2]api.Kind{0, 2}, [2]api.Kind{2, 0}:
		return intResult{n: bytes.Compare([]byte(wantFold(a.S)), []byte(wantFold(b.S)))}
	case [2]api.Kind{3, 3}, [2]api.Kind{0, 3}, [2]api.Kind{3, 0}:
		return intResult{n: strings.Compare(wantWords(truthOf(a.B)).s, wantWords(truthOf(b.B)).s)}
	case [2]api.Kind{1, 2}, [2]api.Kind{1, 3}, [2]api.Kind{2, 3}:
		return intResult{n: -1}
	}
	return intResult{n: 1}
}

func wantAlike(a, b api.Value) bool {
	return a.Kind == b.Kind && a.N == b.N && wantFold(a.S) == wantFold(b.S) && a.B == b.B && a.Code == b.Code
}

func wantRead(s string) readResult {
	if n, ok := wantParse(s); ok {
		return readResult{v: numberOf(n)}
	}
	for c, name := range faultNames() {
		if name == s {
			return readResult{v: faultOf(c)}
		}
	}
	switch wantFold(s) {
	case "":
		return readResult{}
	case "TRUE":
		return readResult{v: truthOf(true)}
	case "FALSE":
		return readResult{v: truthOf(false)}
	}
	if len(s) > 255 {
		return readResult{e: api.ErrBig}
	}
	return readResult{v: textOf(s)}
}

// numbers are the numbers at which something turns.
func numbers() []int {
	out := []int{0}
	for _, n := range []int{1, 2, 9, 10, 499999, 500000, 999999, 1000000, 1000001, 1500000, 2000000, 7500000, 10000000, 123456789, most/10 - 1, most - 1000000, most - 1, most} {
		out = append(out, n, -n)
	}
	return out
}

func wrongNumbers() []int {
	return []int{most + 1, -most - 1, 2 * most, math.MaxInt, math.MinInt, math.MinInt + 1}
}

// mixtures are a text with each choice of its letters great and small.
func mixtures(s string) []string {
	out := []string{""}
	for _, c := range s {
		var longer []string
		for _, front := range out {
			longer = append(longer, front+strings.ToUpper(string(c)))
			if low := strings.ToLower(string(c)); low != strings.ToUpper(string(c)) {
				longer = append(longer, front+low)
			}
		}
		out = longer
	}
	return out
}

// texts are those at which something turns, of at most 255 bytes.
func texts() []string {
	out := []string{
		"", " ", "a", "A", "b", "B", "z", "Z", "ab", "AB", "aB", "Ab", "abc", "ABD", "abd", "ac", "@", "[", "`", "{", "_", "a_", "aZ", "a[", "A{", "\x00", "a\x00", "\x7f",
		"é", "É", "aé", "Aé", "Ж", "ж", "ß", "ſ", "K", "ı", "😀", "ａ", // letters that are none of a to z
		"\x80", "\xc3", "\xc3a", "\xc3A", "a\xff", "\xff", "\xfea\xff", "\xc1\xa1", "\xe1\x81\xa1", "\xed\xa0\x80z", "\xf0\x9fz", "\xef\xbf\xbd", // no right UTF-8, and what stands for it
		"0", "-0", "00", "7.5", "007.50", "-0.5", "-007.500", "0.000001", "-0.000001", "1.", ".5", "-.5", "-", "--1", "+1", " 1", "1 ", "1e3", "1,000", "0x1", "1.0000001", "1.1234567", "٣", "1.5\x00", "\n1",
		"1000000000000", "-1000000000000", "1000000000000.000000", "999999999999.999999", "1000000000000.000001", "-1000000000000.000001", "1000000000001", "-1000000000001", "99999999999999999999",
		strings.Repeat("0", 39) + "7", "-" + strings.Repeat("0", 38) + "7", strings.Repeat("0", 40) + "7", "-" + strings.Repeat("0", 39) + "7", strings.Repeat("9", 40), strings.Repeat("9", 41),
		"TRU", "TRUEE", "TRUE ", " TRUE", "FALS", "FALSEE", "false\x00", "T", "F", "YES", "truе", "falſe", "true\xff", "1TRUE",
		"#", "#N/A!", "N/A", "#NA", " #N/A", "#N/A ", "#DIV/0", "#NULL!", "#NAME!", "#NUM?", "#VALUE", "#CYCLE", "#REF!#REF!",
		strings.Repeat("x", 254), strings.Repeat("x", 255), strings.Repeat("X", 255), strings.Repeat("x", 254) + "y", strings.Repeat("\xff", 255), strings.Repeat("é", 127), strings.Repeat("1", 255), strings.Repeat("\x00", 255),
	}
	out = append(out, mixtures("TRUE")...)
	out = append(out, mixtures("FALSE")...)
	for _, name := range faultNames() {
		out = append(out, name, strings.ToLower(name), strings.ToUpper(name[:2])+strings.ToLower(name[2:]), name[:len(name)-1], name[1:])
	}
	return out
}

// longTexts have more bytes than a text may.
func longTexts() []string {
	return []string{
		strings.Repeat("x", 256), strings.Repeat("X", 256), strings.Repeat("x", 300), strings.Repeat("é", 128), strings.Repeat("\xff", 256), strings.Repeat("0", 256), strings.Repeat("9", 256), strings.Repeat(" ", 1000),
		"TRUE" + strings.Repeat(" ", 252), "#N/A" + strings.Repeat("\x00", 252), "7" + strings.Repeat(" ", 255),
	}
}

// rightValues are values of every kind at which something turns.
func rightValues() []api.Value {
	out := []api.Value{blank, truthOf(false), truthOf(true)}
	for _, n := range numbers() {
		out = append(out, numberOf(n))
	}
	for _, s := range texts() {
		out = append(out, textOf(s))
	}
	for c := range faultNames() {
		out = append(out, faultOf(c))
	}
	return out
}

// wrongValues are such that are not right by one field, for each kind and each field, and by several.
func wrongValues() []api.Value {
	var out []api.Value
	for _, k := range []api.Kind{-1, -4, 5, 6, 9, 255, 256, 257, 1 << 32, 1<<32 + 1, math.MaxInt, math.MinInt} {
		out = append(out, api.Value{Kind: k}, api.Value{Kind: k, N: 1}, api.Value{Kind: k, S: "a"}, api.Value{Kind: k, B: true}, api.Value{Kind: k, Code: 1})
	}
	for _, n := range wrongNumbers() {
		out = append(out, numberOf(n))
	}
	for _, s := range longTexts() {
		out = append(out, textOf(s))
	}
	for _, c := range []api.Code{0, -1, -7, 8, 9, 255, 257, math.MaxInt, math.MinInt} {
		out = append(out, faultOf(c))
	}
	out = append(out, foreign()...)
	return append(out, api.Value{Kind: 1, N: 1, S: "a", B: true, Code: 1}, api.Value{Kind: 2, N: most + 1, S: "a"}, api.Value{Kind: 4, N: 1, Code: 8})
}

// foreign are values that would be right but for one field that their kind does not have.
func foreign() []api.Value {
	var out []api.Value
	for _, v := range []api.Value{blank, numberOf(0), numberOf(5), numberOf(most), textOf(""), textOf("a"), textOf("7.5"), textOf("TRUE"), truthOf(false), truthOf(true), faultOf(1), faultOf(2), faultOf(7)} {
		if v.Kind != 1 {
			for _, n := range []int{1, -1, most, -most, math.MinInt} {
				w := v
				w.N = n
				out = append(out, w)
			}
		}
		if v.Kind != 2 {
			for _, s := range []string{"a", " ", "\x00", "TRUE"} {
				w := v
				w.S = s
				out = append(out, w)
			}
		}
		if v.Kind != 3 {
			w := v
			w.B = true
			out = append(out, w)
		}
		if v.Kind != 4 {
			for _, c := range []api.Code{1, 2, 7, 8, -1} {
				w := v
				w.Code = c
				out = append(out, w)
			}
		}
	}
	return out
}

// scattered are right values at random, of texts such as are near to one another or near to something else.
func scattered(seed int64, many int) []api.Value {
	r := rand.New(rand.NewSource(seed))
	var out []api.Value
	for range many {
		switch r.Intn(8) {
		case 0:
			out = append(out, blank)
		case 1:
			out = append(out, truthOf(r.Intn(2) == 0))
		case 2, 3:
			out = append(out, numberOf((r.Intn(most+1)>>r.Intn(60))*(1-2*r.Intn(2))))
		case 4:
			out = append(out, faultOf(api.Code(1+r.Intn(7))))
		default:
			out = append(out, textOf(scatteredText(r)))
		}
	}
	return out
}

func scatteredText(r *rand.Rand) string {
	from := []string{"abAB", "0123456789.-", "aZz[`{@\xc3\xa9\xff\x00", "TRUEtrue", "FALSEfalse", "#N/A!DIV0na"}[r.Intn(6)]
	out := make([]byte, r.Intn(1+[]int{3, 6, 20, 255}[r.Intn(4)]))
	for i := range out {
		out[i] = from[r.Intn(len(from))]
	}
	return string(out)
}
