package codes

import (
	"math"
	"math/big"
	"math/rand"
	"regexp"
	"strings"
	"time"

	"foolscap/api"
	"foolscap/value"
)

// The tests hold the package against a second telling of the chapter's words, which shares no code with it: pieces and places are told by patterns, numbers are rounded without bound, days are written by the library.

const (
	unit    = 1000000
	most    = 1000000000000000000
	lastDay = 2958464
)

type textResult struct {
	s string
	c api.Code
}

func asText(s string, c api.Code) textResult { return textResult{s, c} }
func right(s string) textResult              { return textResult{s: s} }
func wrong(c api.Code) textResult            { return textResult{c: c} }

func numberOf(n int) api.Value         { return api.Value{Kind: api.Num, N: n} }
func textOf(s string) api.Value        { return api.Value{Kind: api.Text, S: s} }
func truthOf(b bool) api.Value         { return api.Value{Kind: api.Bool, B: b} }
func faultOf(c api.Code) api.Value     { return api.Value{Kind: api.Fault, Code: c} }
func daysOf(n, fraction int) api.Value { return numberOf(n*unit + fraction) }

var blank = api.Value{}

var (
	pieceForm   = regexp.MustCompile(`(?s)^(?:"([^"]*)"|\\(.)|([ $()+\-/:!=])|([0#,.]+)|(%)|(y+|m+|d+)|(@)|(;))`)
	placeForm   = regexp.MustCompile(`^(?:#(?:,?#)*(?:,?0)*|0(?:,?0)*)(?:\.0*#*)?$`)
	dayForm     = regexp.MustCompile(`^(?:yyyy|yy|mm?|dd?)$`)
	sectionForm = regexp.MustCompile(`^(?:n%?%?|%n%?|%%n|d+|@+|)$`)
)

// bytewise tells a text with a rune for each byte, so that a pattern goes by bytes; back tells the bytes again.
func bytewise(s string) string {
	runes := make([]rune, len(s))
	for i := range len(s) {
		runes[i] = rune(s[i])
	}
	return string(runes)
}

func back(s string) string {
	var bytes []byte
	for _, r := range s {
		bytes = append(bytes, byte(r))
	}
	return string(bytes)
}

// wantPiece is a piece by its sign: w words, n a number's place, % a hundred, d a part of a day, @ the text.
type wantPiece struct {
	sign byte
	text string
}

type wantSection []wantPiece

// shape tells the signs of a section's pieces, without words.
func (s wantSection) shape() string {
	out := ""
	for _, p := range s {
		if p.sign != 'w' {
			out += string(p.sign)
		}
	}
	return out
}

func (s wantSection) is(sign string) bool { return strings.Contains(s.shape(), sign) }

// wantSections tells a format's sections, by the signs of their pieces.
func wantSections(code string) ([]wantSection, api.Errno) {
	if len(code) > 60 {
		return nil, api.ErrBig
	}
	all := []wantSection{nil}
	for rest := bytewise(code); rest != ""; {
		m := pieceForm.FindStringSubmatchIndex(rest)
		if m == nil {
			return nil, api.ErrSyntax
		}
		for i, sign := range []byte("wwwn%d@;") {
			if m[2*i+2] < 0 {
				continue
			}
			text := rest[m[2*i+2]:m[2*i+3]]
			if sign == 'n' && !placeForm.MatchString(text) || sign == 'd' && !dayForm.MatchString(text) {
				return nil, api.ErrSyntax
			}
			if sign == ';' {
				all = append(all, nil)
			} else {
				all[len(all)-1] = append(all[len(all)-1], wantPiece{sign, back(text)})
			}
		}
		rest = rest[m[1]:]
	}
	for _, s := range all {
		if len(all) > 3 || !sectionForm.MatchString(s.shape()) {
			return nil, api.ErrSyntax
		}
	}
	return all, api.OK
}

func wantCheck(code string) api.Errno {
	_, e := wantSections(code)
	return e
}

func wantPlain(code string) bool {
	all, e := wantSections(code)
	for _, s := range all {
		if s.shape() != "" {
			return false
		}
	}
	return e == api.OK
}

func wantApply(code string, v api.Value) textResult {
	all, e := wantSections(code)
	switch {
	case e != api.OK || value.Check(v) != api.OK:
		return wrong(api.Wrong)
	case v.Kind == api.Fault:
		return wrong(v.Code)
	case v.Kind == api.Text || v.Kind == api.Bool:
		words, _ := value.Words(v)
		for _, s := range all {
			if s.is("@") {
				return right(s.with(func(wantPiece) string { return words }))
			}
		}
		return right(words)
	}
	var left []wantSection
	for _, s := range all {
		if !s.is("@") {
			left = append(left, s)
		}
	}
	return wantOfNumber(left, v.N)
}

// with tells what a section writes, when all but words and hundreds are written so.
func (s wantSection) with(write func(p wantPiece) string) string {
	out := ""
	for _, p := range s {
		if p.sign == 'w' || p.sign == '%' {
			out += p.text
		} else {
			out += write(p)
		}
	}
	return out
}

func wantOfNumber(left []wantSection, n int) textResult {
	sign := ""
	var s wantSection
	switch {
	case len(left) == 0:
		words, _ := value.Words(numberOf(n))
		return right(words)
	case len(left) == 1:
		s = left[0]
		if n < 0 {
			sign = "-"
		}
	case n < 0:
		s = left[1]
	case n == 0 && len(left) == 3:
		s = left[2]
	default:
		s = left[0]
	}
	if s.is("d") {
		return wantDay(s, n)
	}
	size := new(big.Int).Abs(big.NewInt(int64(n)))
	for range strings.Count(s.shape(), "%") {
		size.Mul(size, big.NewInt(100))
	}
	if size.Cmp(big.NewInt(most)) > 0 {
		return wrong(api.Range)
	}
	return right(sign + s.with(func(p wantPiece) string { return wantDigits(p.text, size) }))
}

func wantDay(s wantSection, n int) textResult {
	// Div rounds down where it divides by a number above 0.
	serial := new(big.Int).Div(big.NewInt(int64(n)), big.NewInt(unit)).Int64()
	if serial < 1 || serial > lastDay {
		return wrong(api.Wrong)
	}
	day := time.Date(1900, time.January, int(serial), 0, 0, 0, 0, time.UTC)
	return right(s.with(func(p wantPiece) string {
		layout := map[string]string{"yyyy": "2006", "yy": "06", "mm": "01", "m": "1", "dd": "02", "d": "2"}[p.text]
		return day.Format(layout)
	}))
}

// wantDigits tells how a number's place writes a number of millionths: digit by digit, each by its mark.
func wantDigits(row string, millionths *big.Int) string {
	whole, behind, point := strings.Cut(row, ".")
	decimals := min(len(behind), 6)
	step := new(big.Int).Exp(big.NewInt(10), big.NewInt(int64(6-decimals)), nil)
	times, rest := new(big.Int).QuoRem(millionths, step, new(big.Int))
	if c := rest.Lsh(rest, 1).Cmp(step); c > 0 || c == 0 && times.Bit(0) == 1 {
		times.Add(times, big.NewInt(1))
	}
	digits := times.String()
	for len(digits) <= decimals {
		digits = "0" + digits
	}
	out := wantWhole(whole, digits[:len(digits)-decimals])
	if !point {
		return out
	}
	out += "."
	fraction := digits[len(digits)-decimals:]
	for i := range len(behind) {
		digit := "0"
		if i < len(fraction) {
			digit = fraction[i : i+1]
		}
		if behind[i] == '#' && (i >= len(fraction) || strings.Trim(fraction[i:], "0") == "") {
			break
		}
		out += digit
	}
	return out
}

// wantWhole goes over the digits from the right.
func wantWhole(row, digits string) string {
	if digits == "0" {
		digits = ""
	}
	out, count := "", 0
	for count < len(digits) || count < strings.Count(row, "0") {
		if count > 0 && count%3 == 0 && strings.Contains(row, ",") {
			out = "," + out
		}
		digit := "0"
		if count < len(digits) {
			digit = digits[len(digits)-1-count : len(digits)-count]
		}
		out = digit + out
		count++
	}
	return out
}

// numbers tells numbers of all sizes with both signs: halves and those beside them, those that get a digit more by rounding, days and those beside them, and those that go too far by hundreds.
func numbers() []int {
	var out []int
	for _, n := range []int{
		0, 1, 4, 5, 6, 10, 49, 50, 51, 100, 120, 500, 1500, 2500, 4999, 5000, 5001, 9950, 9999, 15000, 25000, 99999, 100000, 123456, 250000, 350000, 499999, 500000, 500001, 949999, 950000, 994999, 995000, 995001, 999499, 999500, 999949, 999950, 999994, 999995, 999999,
		1000000, 1000001, 1005000, 1015000, 1025000, 1100000, 1120000, 1123456, 1499999, 1500000, 1500001, 1990000, 2000000, 2500000, 3500000, 9499999, 9500000, 9999999, 10000000, 12345678, 99500000, 99999999, 100000000, 123000000, 999000000, 999499999, 999500000, 999999999, 1000000000, 1000500000, 1234500000, 1234567500000, 12345678901234, 99999500000000, 999999499999999, 999999500000000, 999999999999999,
		31000000, 32000000, 59000000, 59999999, 60000000, 365000000, 366000000, 45000000000, 45000999999, 45351000000, lastDay*unit - 1, lastDay * unit, lastDay*unit + 1, lastDay*unit + 999999, (lastDay + 1) * unit, 2 * lastDay * unit,
		most / 10000, most/10000 - 1, most/10000 + 1, most / 100, most/100 - 1, most/100 + 1, most / 10, most - 1000000, most - 500000, most - 500001, most - 5, most - 1, most,
	} {
		out = append(out, n, -n)
	}
	return out
}

// texts tells texts of values.
func texts() []string {
	return []string{"", "x", "7", "-7.5", "TRUE", "#N/A", "@", ";", "0", "\"", "\\", "0;@", "yyyy", " a b ", "é", "\x00", "\xff\xfe", "line\nline", strings.Repeat("x", 254), strings.Repeat("é", 127) + "x"}
}

// values tells right values of all kinds.
func values() []api.Value {
	out := []api.Value{blank, truthOf(true), truthOf(false)}
	for _, n := range numbers() {
		out = append(out, numberOf(n))
	}
	for _, s := range texts() {
		out = append(out, textOf(s))
	}
	for c := api.Div; c <= api.Cycle; c++ {
		out = append(out, faultOf(c))
	}
	return out
}

// wrongValues tells values that are not right.
func wrongValues() []api.Value {
	return []api.Value{
		{Kind: 5}, {Kind: -1}, {Kind: math.MaxInt}, {Kind: math.MinInt}, {N: 1}, {S: "x"}, {B: true}, {Code: api.NA},
		numberOf(most + 1), numberOf(-most - 1), numberOf(math.MaxInt), numberOf(math.MinInt), {Kind: api.Num, S: "x"}, {Kind: api.Num, N: 1, B: true}, {Kind: api.Num, Code: api.Div},
		textOf(strings.Repeat("x", 256)), {Kind: api.Text, N: 1}, {Kind: api.Text, S: "x", B: true}, {Kind: api.Text, Code: api.Wrong}, {Kind: api.Bool, N: 1}, {Kind: api.Bool, B: true, S: "TRUE"}, {Kind: api.Bool, Code: api.Ref},
		faultOf(api.None), faultOf(8), faultOf(-1), {Kind: api.Fault, Code: api.NA, N: 1}, {Kind: api.Fault, Code: api.NA, S: "#N/A"}, {Kind: api.Fault, Code: api.NA, B: true},
	}
}

// scatteredNumber tells a number with few digits or many, often one that lies in the middle of something.
func scatteredNumber(r *rand.Rand) int {
	n := r.Intn(most + 1)
	for range r.Intn(18) {
		n /= 10
	}
	if r.Intn(3) == 0 {
		step := []int{10, 100, 1000, 10000, 100000, 1000000, 10000000}[r.Intn(7)]
		n = min(n/step*step+step/2, most)
	}
	if r.Intn(2) == 0 {
		return -n
	}
	return n
}

func scatteredValue(r *rand.Rand) api.Value {
	switch r.Intn(10) {
	case 0:
		return textOf(texts()[r.Intn(len(texts()))])
	case 1:
		return truthOf(r.Intn(2) == 0)
	case 2:
		return blank
	case 3:
		return daysOf(r.Intn(lastDay+2), r.Intn(unit))
	case 4:
		return faultOf(api.Code(1 + r.Intn(7)))
	}
	return numberOf(scatteredNumber(r))
}

// scatteredCode tells a code that often is a format: sections of one kind each, and now and then a byte that is another one.
func scatteredCode(r *rand.Rand) string {
	parts := make([]string, 1+r.Intn(3)+r.Intn(20)/19)
	for i := range parts {
		parts[i] = scatteredSection(r)
	}
	code := []byte(strings.Join(parts, ";"))
	if len(code) > 0 && r.Intn(4) == 0 {
		code[r.Intn(len(code))] = "0#,.%ymd@;\"\\ x$-"[r.Intn(16)]
	}
	return string(code)
}

func scatteredSection(r *rand.Rand) string {
	words := []string{"", "", " ", "$", "(", ")", "-", "/", "\"\"", "\"ab\"", "\"0;@\"", "\\;", "\\\"", "\\\\", "\\x", "\xff"[:r.Intn(40)/39]}
	word := func() string { return words[r.Intn(len(words))] }
	days := []string{"yyyy", "yy", "mm", "m", "dd", "d"}
	out := word()
	switch r.Intn(5) {
	case 0, 1:
		for range r.Intn(6) / 4 {
			out = "%" + out
		}
		out += scatteredPlace(r) + word()
		for range r.Intn(6) / 4 {
			out += "%"
		}
	case 2:
		for range 1 + r.Intn(4) {
			out += days[r.Intn(len(days))] + word()
		}
	case 3:
		for range 1 + r.Intn(3)/2 {
			out += "@" + word()
		}
	}
	return out + word()
}

func scatteredPlace(r *rand.Rand) string {
	whole := strings.Repeat("#", r.Intn(4)) + strings.Repeat("0", r.Intn(5))
	if whole == "" && r.Intn(10) > 0 {
		whole = "0"
	}
	if len(whole) > 1 && r.Intn(3) == 0 {
		at := 1 + r.Intn(len(whole)-1)
		whole = whole[:at] + "," + whole[at:]
	}
	if r.Intn(2) == 0 {
		return whole
	}
	return whole + "." + strings.Repeat("0", r.Intn(9)) + strings.Repeat("#", r.Intn(9))
}
