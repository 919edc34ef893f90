package codes

import (
	"math/rand"
	"strings"
	"testing"

	"foolscap/api"
)

// asksCheck holds Check and Plain of a code against the second telling, and tells what Check says.
func asksCheck(t *testing.T, code string) api.Errno {
	t.Helper()
	e := Check(code)
	if want := wantCheck(code); e != want {
		t.Errorf("Check(%q) = %d, want %d", code, e, want)
	}
	if got, want := Plain(code), wantPlain(code); got != want {
		t.Errorf("Plain(%q) = %v, want %v", code, got, want)
	}
	return e
}

// plainCodes tells formats of words alone.
func plainCodes() []string {
	return []string{
		"", ";", ";;", " ", "  ", "$", "(", ")", "+", "-", "/", ":", "!", "=", " $()+-/:!=", "\"\"", "\"\"\"\"", "\"x\"", "\"a\"\"b\"", "\"0\"", "\"@;%yd\"", "\"\\\"", "\";\"", "\";\";\";;;\"", "\\;", "\\;\\;\\;\\;", "\\;;\\;;\\;", "\\\"", "\\\\", "\\0", "\\@", "\\y", "\\d\\d", "\\%", "\\x", "\\\xff", "\\\x00", "\"\xff\x00\n\"", "\"é\"", "(-);\"x\";\\x", ";\"x\"", "\"x\";", "\"\";\"\";\"\"", "\\\";\\\"", strings.Repeat(" ", 60), "\"" + strings.Repeat("x", 58) + "\"", strings.Repeat("\\x", 30),
	}
}

// otherCodes tells formats of which a section is not of words alone.
func otherCodes() []string {
	return []string{
		"0", "#", "00", "##", "#0", "##00", "0.", "#.", "0.0", "0.#", "0.0#", "0.00##", "#.#", "#.0", "#.##", "#0.0", "#,#", "0,0", "#,0", "#,##0", "#,##0.00", "#,#,#,0,0,0", "0,000", "0,000.", "#,###.#", "0.0000000", "0.#######", "0.000000000###", "00000000", strings.Repeat("0", 60), strings.Repeat("#", 60), "0." + strings.Repeat("0", 58), "#." + strings.Repeat("#", 58),
		"0%", "%0", "%0%", "0%%", "%%0", "0 %", "%\"x\"0\\x%", "(0%)", "0.0%", "$0", "-0", "0-", "0 ", "0. ", "0\"\"", "\"0\"0", "\\00", "0\\0", "\"#\"0", "0\\,", "0\".0\"",
		"yy", "yyyy", "mm", "m", "dd", "d", "yyyy-mm-dd", "yyyymmdd", "d/m/yy", "md", "dm", "mddmyy", "d d", "d\"\"d", "\"\"d", "yy\"\"yy", "d\\d", "m!m", "dd=dd",
		"@", "@@", " @", "@ ", "@\"x\"@", "\"n: \"@", strings.Repeat("@", 60),
		";0", "0;", "0;;", ";0;", ";;0", "0;0", "0;0;0", "0;@", "@;0", "0;yyyy;@", "@;@;@", "0%;(0%)", "0;-0;\"zero\"", "(0);;", "d;0%;@", "0\";\";0", "0\\;;0;0", "\";;;\"0;d;@", "0;\"\";@",
	}
}

// wrongCodes tells texts of at most 60 bytes that are no formats.
func wrongCodes() []string {
	return []string{
		"\"", "\"x", "x\"", "\"\"\"", "\"a\"b\"", "0\"", "0;\"", "\"0;0", "\\\"\"", "\"\\\"\"", "\\", "0\\", "\\\\\\", "0;\\", "\"x\"\\", "@\\",
		",", ".", "#,", "0,", ",0", ",#", ",,", "0,,0", "#,,0", "0,.", "0,.0", "#,.#", "#,##0,", "#,##0,.00", ",##0", "0#", "#0#", "00#", "0,#", "#,0,#", "0.#0", "0.0#0", "0.##0", "0..", "0..0", "0.0.0", "0.0.", ".0", ".#", ".00", "..", ".,", ",.", "0.,", "0.0,", "0.0,0", "0.,0", "0.#,#", "0.#,", "#.,#", "0.0,#", strings.Repeat(",", 60),
		"0 0", "0\"x\"0", "0\\x0", "0%0", "0-0", "#/#", "0\"\"0", "0(0)", "# ##0", "0;0 0", "0 0;0",
		"%", "%%", " %", "%;0", "0;%", "0;%;0", "%@", "@%", "%d", "d%", "\"x\"%", "0%%%", "%0%%", "%%%0", "%%0%", "0 % % %", "0;0%%%", "%%%%0",
		"y", "yyy", "yyyyy", "yyyyyy", "yyyyyyyy", "mmm", "mmmm", "mmmmm", "ddd", "dddd", "ddddd", "ymd", "yyyy-mm-ddd", "mm;mmm", "Y", "YYYY", "M", "DD", "yyyY", "mM",
		"0d", "d0", "0 d", "#yyyy", "d.", "d,", "yy.mm.dd", "@0", "0@", "@ 0", "@d", "d@", "d \"x\" @", "0%@", "d@0", "0;d@", "@#;0",
		";;;", "0;0;0;0", ";;;0", "0;;;", "@;@;@;@", "d;d;d;d", "\"x\";\"y\";\"z\";\"\"", ";;;;", "\\;;;;", strings.Repeat(";", 60),
		"x", "0x", "x0", "a", "General", "general", "1", "9", "1.5", "0.5", "0E+00", "e", "E", "0e0", "?", "0?", "*", "_", "&", "'", "<", ">", "[", "]", "[Red]0", "{", "}", "~", "^", "`", "|", "h", "s", "hh:mm", "\t", "\n", "\r", "\v", "\x00", "\x7f", "0\n", "\n0", "\xff", "\xc2\xa0", "\xc2", "é", "\\é", "€0", "٠", "０", "＃", "＠", "％", "；", "“x”", "\u00a0", "\u2003", "\ufeff0", strings.Repeat("x", 60), strings.Repeat(" ", 59) + "x",
	}
}

// P12.1
func TestCheck(t *testing.T) {
	for _, code := range append(plainCodes(), otherCodes()...) {
		if e := Check(code); e != api.OK {
			t.Errorf("Check(%q) = %d, want OK", code, e)
		}
		asksCheck(t, code)
	}
	for _, code := range wrongCodes() {
		if e := Check(code); e != api.ErrSyntax {
			t.Errorf("Check(%q) = %d, want ErrSyntax", code, e)
		}
		asksCheck(t, code)
	}
}

// P12.1
func TestPlain(t *testing.T) {
	for _, code := range plainCodes() {
		if !Plain(code) {
			t.Errorf("Plain(%q) = false", code)
		}
	}
	for _, code := range append(otherCodes(), wrongCodes()...) {
		if Plain(code) {
			t.Errorf("Plain(%q) = true", code)
		}
	}
}

// P12.1: a code of 60 bytes may be, one of 61 is too big, be it a format otherwise or not.
func TestCheckOfLength(t *testing.T) {
	for _, one := range []string{" ", "0", "#", "@", "d ", "\\x", "m\"\"", "x", "\"", "\\", ";", ",", "%", "\xff"} {
		for length := 0; length <= 130; length++ {
			code := strings.Repeat(one, length)
			e := asksCheck(t, code)
			if len(code) > 60 && e != api.ErrBig || len(code) <= 60 && e == api.ErrBig {
				t.Errorf("Check(%q), of %d bytes, = %d", code, len(code), e)
			}
		}
	}
	for _, code := range []string{strings.Repeat("x", 100000), strings.Repeat("@", 1<<20), "0" + strings.Repeat(";", 60), strings.Repeat("é", 31)} {
		if e := Check(code); e != api.ErrBig || Plain(code) {
			t.Errorf("Check of %d bytes = %d, want ErrBig", len(code), e)
		}
	}
}

// P12.1: each byte alone, behind a \, in quotes, ahead of and behind each kind of piece, and each pair of bytes.
func TestCheckOfAllBytes(t *testing.T) {
	selves := 0
	for i := range 256 {
		one := string([]byte{byte(i)})
		if asksCheck(t, one) == api.OK && Plain(one) && one != ";" {
			selves++
			if !strings.Contains(" $()+-/:!=", one) {
				t.Errorf("%q is a word by itself", one)
			}
		}
		if Check("\\"+one) != api.OK || !Plain("\\"+one) {
			t.Errorf("no word: a \\ and %q", one)
		}
		if one != "\"" && !Plain("\""+one+"\"") {
			t.Errorf("no word: %q in quotes", one)
		}
		for _, beside := range []string{"0", "#", "0.", "0.0", "0%", "d", "yyyy", "@", "\"x\"", "\"", "\\", "\\x", ";", ";;", "(", "#,##0.0#", "%0", "yyyy-mm-dd"} {
			asksCheck(t, one+beside)
			asksCheck(t, beside+one)
			asksCheck(t, beside+one+beside)
			asksCheck(t, beside+"\\"+one)
		}
		for j := range 256 {
			asksCheck(t, string([]byte{byte(i), byte(j)}))
		}
	}
	if selves != 10 {
		t.Errorf("%d bytes are words by themselves", selves)
	}
}

// asksAll holds Check of all texts of up to so many of some bytes against the second telling, and counts those that are formats.
func asksAll(t *testing.T, bytes string, most int) int {
	t.Helper()
	count := 0
	var longer func(code string)
	longer = func(code string) {
		if asksCheck(t, code) == api.OK {
			count++
		}
		if len(code) == most {
			return
		}
		for i := range len(bytes) {
			longer(code + bytes[i:i+1])
		}
	}
	longer("")
	return count
}

// P12.1: each row of the bytes of a number's place.
func TestCheckOfAllPlaces(t *testing.T) {
	if n := asksAll(t, "0#,.", 8); n < 300 {
		t.Errorf("%d are formats", n)
	}
}

// P12.1: each row of the letters of days, and of hundreds beside a place.
func TestCheckOfAllRows(t *testing.T) {
	if n := asksAll(t, "ymd", 7); n < 50 {
		t.Errorf("%d are formats", n)
	}
	if n := asksAll(t, "0% ", 7); n < 100 {
		t.Errorf("%d are formats", n)
	}
}

// P12.1: pieces of all kinds, and what parts them.
func TestCheckOfAllMixtures(t *testing.T) {
	if n := asksAll(t, "0.%d@;\"\\ x", 5); n < 500 {
		t.Errorf("%d are formats", n)
	}
}

// P12.1
func TestCheckOfScatteredCodes(t *testing.T) {
	r := rand.New(rand.NewSource(1))
	seen := map[api.Errno]int{}
	for range 50000 {
		seen[asksCheck(t, scatteredCode(r))]++
	}
	for range 50000 {
		bytes := make([]byte, r.Intn(70))
		for i := range bytes {
			bytes[i] = "0#,.%ymd@;\"\\ $-x\xff"[r.Intn(17)]
		}
		seen[asksCheck(t, string(bytes))]++
	}
	if seen[api.OK] < 20000 || seen[api.ErrSyntax] < 20000 || seen[api.ErrBig] < 2000 {
		t.Errorf("seen: %v", seen)
	}
}
