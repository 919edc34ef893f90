package lex

import (
	"math/rand"
	"strings"
	"testing"

	"foolscap/api"
)

func right(t *testing.T, s string, want ...api.Token) {
	t.Helper()
	if got := asResult(Scan(s)); !same(got, result{tokens: append(want, endAt(len(s)))}) {
		t.Errorf("Scan(%q) = %v, want %v and the end", s, got, want)
	}
}

func refused(t *testing.T, s string, at int, e api.Errno) {
	t.Helper()
	if got := asResult(Scan(s)); !same(got, result{at: at, e: e}) {
		t.Errorf("Scan(%q) = %v, want error %d at %d", s, got, e, at)
	}
}

// P7.1: the chapter's examples.
func TestExamples(t *testing.T) {
	right(t, "SUM(A1:$B$2)*2", nameAt(0, "SUM"), signAt(3, "("), cellAt(4, 1, 1, false, false), signAt(6, ":"), cellAt(7, 2, 2, true, true), signAt(11, ")"), signAt(12, "*"), numberAt(13, 2000000))
	right(t, `"a""b"`, textAt(0, `a"b`))
	refused(t, "1.2.3", 0, api.ErrSyntax)
	right(t, "a1+#N/A", cellAt(0, 1, 1, false, false), signAt(2, "+"), faultAt(3, api.NA))
	right(t, "3<>4", numberAt(0, 3000000), signAt(1, "<>"), numberAt(3, 4000000))
	refused(t, "$A(1)", 0, api.ErrSyntax)
}

// P7.1: how the kinds are numbered.
func TestKinds(t *testing.T) {
	for s, want := range map[string]api.TokenKind{"": 0, "1": 1, `"a"`: 1, "true": 1, "#REF!": 1, "A1": 2, "A1(": 3, "(": 4} {
		if l, _, e := Scan(s); e != api.OK || l[0].Kind != want {
			t.Errorf("Scan(%q) = %v, %d, want the kind %d", s, l, e, want)
		}
	}
}

// P7.1
func TestLengthsOfTheWhole(t *testing.T) {
	right(t, "")
	right(t, " ")
	right(t, "     ")
	right(t, strings.Repeat(" ", 1024))
	right(t, strings.Repeat(" ", 1023)+"7", numberAt(1023, 7000000))
	right(t, "7"+strings.Repeat(" ", 1023), numberAt(0, 7000000))
	var pluses []api.Token
	for i := range 1024 {
		pluses = append(pluses, signAt(i, "+"))
	}
	right(t, strings.Repeat("+", 1024), pluses...)
	refused(t, strings.Repeat("+", 1023)+";", 1023, api.ErrSyntax)
	for _, s := range []string{strings.Repeat(" ", 1025), strings.Repeat("+", 1025), strings.Repeat(" ", 1024) + "7", ";" + strings.Repeat(" ", 1024), strings.Repeat("1.2.3 ", 200), `"` + strings.Repeat("x", 1024), strings.Repeat("9", 1025), strings.Repeat("\xff", 1<<20)} {
		refused(t, s, 0, api.ErrBig)
	}
}

// P7.1
func TestNumbers(t *testing.T) {
	for s, want := range map[string]int{
		"0": 0, "9": 9000000, "10": 10000000, "1234567890": 1234567890000000, "007.50": 7500000, "000": 0, "0.0": 0, "0.000000": 0, "1.500000": 1500000, "00.000001": 1, "0.1": 100000, "3.14159": 3141590,
		"1000000000000": most, "1000000000000.000000": most, "999999999999.999999": most - 1, strings.Repeat("0", 40): 0, strings.Repeat("0", 39) + "8": 8000000, strings.Repeat("0", 20) + "1000000000000.000000": most,
	} {
		right(t, s, numberAt(0, want))
		right(t, " "+s+" ", numberAt(1, want))
		right(t, s+"-", numberAt(0, want), signAt(len(s), "-"))
	}
	for _, s := range []string{"1.2.3", "1.", "0.", "1..", "1..2", "1.2.", "0.0000001", "1.0000000", strings.Repeat("0", 41), strings.Repeat("1", 1000), "9999999999999.", "9999999999999.9999999"} {
		refused(t, s, 0, api.ErrSyntax)
		refused(t, "1+"+s+"+1", 2, api.ErrSyntax)
	}
	for _, s := range []string{"1000000000001", "1000000000000.000001", "9999999999999", strings.Repeat("9", 40), "9" + strings.Repeat("0", 32) + ".999999"} {
		refused(t, s, 0, api.ErrOver)
		refused(t, " 1 + "+s+"+;", 5, api.ErrOver)
	}
	refused(t, ".", 0, api.ErrSyntax)
	refused(t, ".5", 0, api.ErrSyntax)
	refused(t, "1 .5", 2, api.ErrSyntax)
	refused(t, "1e", 1, api.ErrSyntax)
	refused(t, "1_", 1, api.ErrSyntax)
	right(t, "1 2", numberAt(0, 1000000), numberAt(2, 2000000))
	right(t, "-1", signAt(0, "-"), numberAt(1, 1000000))
	right(t, "2A1", numberAt(0, 2000000), cellAt(1, 1, 1, false, false))
	right(t, "1e5", numberAt(0, 1000000), cellAt(1, 5, 5, false, false))
	right(t, "1.5$B2", numberAt(0, 1500000), cellAt(3, 2, 2, false, true))
	right(t, `1"a"`, numberAt(0, 1000000), textAt(1, "a"))
}

// P7.1
func TestTexts(t *testing.T) {
	long, quotes := strings.Repeat("x", 255), strings.Repeat(`"`, 255)
	for s, want := range map[string]string{
		`""`: "", `""""`: `"`, `""""""`: `""`, `"a"`: "a", `" "`: " ", `"  a  "`: "  a  ", `"a""b"`: `a"b`, `"""a"`: `"a`, `"a"""`: `a"`, `"""a"""`: `"a"`, `"a""""b"`: `a""b`, `"a""b""c"`: `a"b"c`, `"aB"`: "aB", `"TRUE"`: "TRUE", `"1.2.3;#"`: "1.2.3;#", "\"\x00\t\n\x7f\x80\xff\"": "\x00\t\n\x7f\x80\xff", `"é"`: "é",
		`"` + long + `"`: long, `"` + quotes + quotes + `"`: quotes, `"` + long[:254] + `"""`: long[:254] + `"`,
	} {
		right(t, s, textAt(0, want))
		right(t, s+" ", textAt(0, want))
		right(t, "&"+s+"&", signAt(0, "&"), textAt(1, want), signAt(1+len(s), "&"))
	}
	right(t, `"" ""`, textAt(0, ""), textAt(3, ""))
	right(t, `"a" "b"`, textAt(0, "a"), textAt(4, "b"))
	right(t, `"a"A1`, textAt(0, "a"), cellAt(3, 1, 1, false, false))
	refused(t, `"a"""b`, 5, api.ErrSyntax)
	for _, s := range []string{`"`, `"a`, `"""`, `"a""`, `"a""b`, `"""b`, `"a""""`, `"""""`, `" `, `"` + long, `"` + long + "x", `"` + strings.Repeat("x", 1023), `"` + quotes + `"`} {
		refused(t, s, 0, api.ErrSyntax)
		if len(s) < 1000 {
			refused(t, `1 & "b" & `+s, 10, api.ErrSyntax)
		}
	}
	for _, s := range []string{`"` + long + `x"`, `"` + quotes + quotes + `x"`, `"` + quotes + quotes + `"""`, `"` + long + `"""`, `"` + strings.Repeat(" ", 1022) + `"`} {
		refused(t, s, 0, api.ErrBig)
		if len(s) < 1000 {
			refused(t, ` ""&`+s+";", 4, api.ErrBig)
		}
	}
}

// P7.1
func TestFaults(t *testing.T) {
	for i, s := range faultsOfChapter() {
		c := api.Code(i + 1)
		right(t, s, faultAt(0, c))
		right(t, "("+s+")", signAt(0, "("), faultAt(1, c), signAt(1+len(s), ")"))
		right(t, s+"7", faultAt(0, c), numberAt(len(s), 7000000))
		right(t, s+"b2", faultAt(0, c), cellAt(len(s), 2, 2, false, false))
		right(t, s+"true", faultAt(0, c), truthAt(len(s), true))
		right(t, s+s, faultAt(0, c), faultAt(len(s), c))
		refused(t, s+"x", len(s), api.ErrSyntax)
		refused(t, s+".", len(s), api.ErrSyntax)
		refused(t, s+"!", len(s), api.ErrSyntax)
		for n := range len(s) - 1 {
			refused(t, s[:1+n], 0, api.ErrSyntax)
			refused(t, "2+"+s[:1+n]+"+1", 2, api.ErrSyntax)
			if other := s[:1+n] + "~" + s[2+n:]; other != s {
				refused(t, other, 0, api.ErrSyntax)
			}
		}
		refused(t, "#"+s, 0, api.ErrSyntax)
		refused(t, "# "+s[1:], 0, api.ErrSyntax)
		refused(t, strings.ToLower(s), 0, api.ErrSyntax)
	}
	for _, s := range []string{"#", "# ", "##", "#1", "#A1", "#NA", "#N/a", "#NAME!", "#VALUE?", "#CYCLE", "#TRUE", "#\xff", "#GETTING_DATA"} {
		refused(t, s, 0, api.ErrSyntax)
	}
}

// P7.1
func TestNames(t *testing.T) {
	for s, want := range map[string]string{
		"A": "A", "x": "X", "SUM": "SUM", "sum": "SUM", "sUm": "SUM", "TRUE": "TRUE", "false": "FALSE", "A1": "A1", "xfe1": "XFE1", "log10": "LOG10", "a.b_9": "A.B_9", "a_": "A_", "a.": "A.", "a...": "A...", "z9.": "Z9.", "A0": "A0", "AAAA1": "AAAA1",
		"ABCDEFGHIJKLMNOPQRST": "ABCDEFGHIJKLMNOPQRST", "abcdefghijklmnopqrst": "ABCDEFGHIJKLMNOPQRST", "uvwxyz.0123456789___": "UVWXYZ.0123456789___",
	} {
		right(t, s+"(", nameAt(0, want), signAt(len(s), "("))
		right(t, "1+"+s+"()", numberAt(0, 1000000), signAt(1, "+"), nameAt(2, want), signAt(2+len(s), "("), signAt(3+len(s), ")"))
	}
	for _, s := range []string{"$", "$A", "A$", "$A$1", "a$b", "SUM$", "$$", "$1", "abcdefghijklmnopqrstu", "a23456789012345678901", strings.Repeat("a", 1000), "abcdefghijklmnopqrs$"} {
		refused(t, s+"(", 0, api.ErrSyntax)
		refused(t, " + "+s+"(1)", 3, api.ErrSyntax)
	}
	for _, s := range []string{"_a(", ".a("} {
		refused(t, s, 0, api.ErrSyntax)
	}
	// A bracket that does not stand just behind makes no name.
	refused(t, "SUM (", 0, api.ErrSyntax)
	refused(t, "SUM", 0, api.ErrSyntax)
	refused(t, "SUM)", 0, api.ErrSyntax)
	right(t, "LOG10 (", cellAt(0, 10, 8509, false, false), signAt(6, "("))
	right(t, "1a(", numberAt(0, 1000000), nameAt(1, "A"), signAt(2, "("))
	right(t, "a(b(", nameAt(0, "A"), signAt(1, "("), nameAt(2, "B"), signAt(3, "("))
}

// P7.1
func TestTruths(t *testing.T) {
	for _, word := range []string{"TRUE", "FALSE"} {
		b := word == "TRUE"
		for choice := range 1 << len(word) {
			s := []byte(word)
			for i := range s {
				if choice>>i&1 == 1 {
					s[i] += 'a' - 'A'
				}
			}
			right(t, string(s), truthAt(0, b))
			right(t, string(s)+"=", truthAt(0, b), signAt(len(s), "="))
			right(t, string(s)+" (", truthAt(0, b), signAt(len(s)+1, "("))
			right(t, string(s)+"(", nameAt(0, word), signAt(len(s), "("))
		}
		for _, s := range []string{word + "1", word + ".", word + "_", word + "$", "$" + word, word[1:], word[:len(word)-1], word + word, "T" + word} {
			refused(t, s, 0, api.ErrSyntax)
		}
	}
	refused(t, "falſe", 0, api.ErrSyntax)
}

// P7.1
func TestCells(t *testing.T) {
	for s, want := range map[string]api.Token{
		"A1": cellAt(0, 1, 1, false, false), "a1": cellAt(0, 1, 1, false, false), "$A1": cellAt(0, 1, 1, false, true), "A$1": cellAt(0, 1, 1, true, false), "$A$1": cellAt(0, 1, 1, true, true), "$b$7": cellAt(0, 7, 2, true, true), "aZ10": cellAt(0, 10, 52, false, false),
		"XFD1": cellAt(0, 1, lastCol, false, false), "xfd1": cellAt(0, 1, lastCol, false, false), "A1048576": cellAt(0, lastRow, 1, false, false), "$xFd$1048576": cellAt(0, lastRow, lastCol, true, true),
	} {
		right(t, s, want)
		right(t, s+":", want, signAt(len(s), ":"))
		right(t, s+" ", want)
		right(t, s+`"a"`, want, textAt(len(s), "a"))
		right(t, s+"#N/A", want, faultAt(len(s), api.NA))
	}
	for _, s := range []string{"A", "ABC", "A0", "A01", "B07", "$", "$$A1", "A$$1", "A1$", "$1", "A1A", "A1A1", "A1B2", "A1.5", "A_1", "A.1", "A1_", "A1.", "AAAA1", "A12345678", "A10485760", "x", "abcdefghijklmnopqrstuvwxyz", "XFE0", strings.Repeat("A", 1000), strings.Repeat("$", 256)} {
		refused(t, s, 0, api.ErrSyntax)
		refused(t, "1 + "+s+"+", 4, api.ErrSyntax)
	}
	for _, s := range []string{"XFE1", "xfe1", "$ZZZ$1", "A1048577", "$a$9999999", "XFD1048577", "XFE1048577"} {
		refused(t, s, 0, api.ErrEdge)
		refused(t, "1 + "+s+"+;", 4, api.ErrEdge)
	}
	refused(t, "a!", 0, api.ErrSyntax)
	refused(t, "A1!", 2, api.ErrSyntax)
	right(t, "A1 A1", cellAt(0, 1, 1, false, false), cellAt(3, 1, 1, false, false))
}

// P7.1: by themselves, each two with a blank between and without, and rows of three.
func TestSigns(t *testing.T) {
	all := signsOfChapter()
	for _, a := range all {
		right(t, a, signAt(0, a))
		right(t, " "+a+" ", signAt(1, a))
		for _, b := range all {
			right(t, a+" "+b, signAt(0, a), signAt(len(a)+1, b))
			switch a + b {
			case "<>", "<=", ">=":
				right(t, a+b, signAt(0, a+b))
			case "<>=":
				right(t, a+b, signAt(0, "<>"), signAt(2, "="))
			default:
				right(t, a+b, signAt(0, a), signAt(len(a), b))
			}
		}
	}
	right(t, "<=>", signAt(0, "<="), signAt(2, ">"))
	right(t, "<<>>==", signAt(0, "<"), signAt(1, "<>"), signAt(3, ">="), signAt(5, "="))
	right(t, "=<", signAt(0, "="), signAt(1, "<"))
	right(t, "><", signAt(0, ">"), signAt(1, "<"))
	right(t, "<=<>>=", signAt(0, "<="), signAt(2, "<>"), signAt(4, ">="))
}

// P7.1: every byte that begins no token, by itself and behind tokens.
func TestOtherBytes(t *testing.T) {
	for i := range 256 {
		s := string([]byte{byte(i)})
		if strings.Contains(` "#$0123456789+-*/&=<>(),:`+great+small, s) {
			continue
		}
		refused(t, s, 0, api.ErrSyntax)
		refused(t, "  "+s, 2, api.ErrSyntax)
		refused(t, "1+A1 "+s+" ;", 5, api.ErrSyntax)
		refused(t, `"`+s+`"`+s, 3, api.ErrSyntax)
		refused(t, "("+s+"1", 1, api.ErrSyntax)
	}
}

// P7.1: of several things that are wrong the first one is told, wherever it stands.
func TestFirstWrong(t *testing.T) {
	wrong := []struct {
		s string
		e api.Errno
	}{{"1.2.3", api.ErrSyntax}, {"1000000000001", api.ErrOver}, {`"` + strings.Repeat("x", 256) + `"`, api.ErrBig}, {"#NA", api.ErrSyntax}, {"$A(", api.ErrSyntax}, {"XFE1", api.ErrEdge}, {"A0", api.ErrSyntax}, {";", api.ErrSyntax}}
	ahead := []string{"", " ", "SUM(A1, ", `"a""b" & `, "3<>4 ", "true=#N/A,"}
	for _, front := range ahead {
		for _, a := range wrong {
			for _, b := range wrong {
				refused(t, front+a.s+" "+b.s, len(front), a.e)
			}
			refused(t, front+a.s+` "`, len(front), a.e)
		}
	}
}

// P7.1: all texts of one byte and of two.
func TestAllShortTexts(t *testing.T) {
	for i := range 256 {
		one := []byte{byte(i)}
		if got, want := asResult(Scan(string(one))), wantScan(string(one)); !same(got, want) {
			t.Errorf("Scan(%q) = %v, want %v", one, got, want)
		}
		for j := range 256 {
			two := string(append(one, byte(j)))
			if got, want := asResult(Scan(two)), wantScan(two); !same(got, want) {
				t.Errorf("Scan(%q) = %v, want %v", two, got, want)
			}
		}
	}
}

// P7.1: all texts of up to five of some bytes that mean something to one another.
func TestAllTextsOfFewBytes(t *testing.T) {
	for _, from := range []string{`A1.$( `, `"a, &`, `<>= 1`, `#N/A0!`, `tA$1_(`} {
		last := []string{""}
		for range 5 {
			var longer []string
			for _, front := range last {
				for i := range len(from) {
					longer = append(longer, front+from[i:i+1])
				}
			}
			for _, s := range longer {
				if got, want := asResult(Scan(s)), wantScan(s); !same(got, want) {
					t.Fatalf("Scan(%q) = %v, want %v", s, got, want)
				}
			}
			last = longer
		}
	}
}

// P7.1
func TestScatteredTexts(t *testing.T) {
	r := rand.New(rand.NewSource(1))
	right, wrong := 0, 0
	for i := range 60000 {
		s := scatteredText(r, true)
		if i%2 == 1 {
			s = thickText(r)
		}
		want := wantScan(s)
		if got := asResult(Scan(s)); !same(got, want) {
			t.Errorf("Scan(%q) = %v, want %v", s, got, want)
		}
		if want.e == api.OK {
			right++
		} else {
			wrong++
		}
	}
	if right < 1000 || wrong < 1000 {
		t.Errorf("%d texts were right, %d wrong", right, wrong)
	}
}

// Rules: an answer is new memory.
func TestAnswersAreNew(t *testing.T) {
	s := "SUM(A1)"
	first, _, _ := Scan(s)
	for i := range first {
		first[i] = api.Token{Kind: 9, S: "x", At: -1}
	}
	_ = append(first, endAt(0))
	if got := asResult(Scan(s)); !same(got, wantScan(s)) {
		t.Errorf("Scan(%q), asked again, = %v", s, got)
	}
}
