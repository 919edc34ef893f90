package lex

import (
	"math/big"
	"math/rand"
	"regexp"
	"slices"
	"strings"

	"foolscap/api"
)

// The tests hold the package against a second telling of the chapter's words, which shares no code with it: patterns tell where a token ends and whether it is right.

const (
	great   = "ABCDEFGHIJKLMNOPQRSTUVWXYZ"
	small   = "abcdefghijklmnopqrstuvwxyz"
	most    = 1000000000000000000
	lastRow = 1048576
	lastCol = 16384
)

var (
	numberRow  = regexp.MustCompile(`\A[0-9][0-9.]*`)
	numberForm = regexp.MustCompile(`\A[0-9]+(\.[0-9]{1,6})?\z`)
	faultRow   = regexp.MustCompile(`\A(#DIV/0!|#VALUE!|#REF!|#NAME\?|#NUM!|#N/A|#CYCLE!)`)
	wordRow    = regexp.MustCompile(`\A[A-Za-z$][A-Za-z0-9$._]*`)
	nameForm   = regexp.MustCompile(`\A[A-Za-z][A-Za-z0-9._]{0,19}\z`)
	cellForm   = regexp.MustCompile(`\A(\$?)([A-Za-z]{1,3})(\$?)([1-9][0-9]{0,6})\z`)
	signRow    = regexp.MustCompile(`\A(<>|<=|>=|[-+*/&=<>(),:])`)
)

type result struct {
	tokens []api.Token
	at     int
	e      api.Errno
}

func asResult(l []api.Token, at int, e api.Errno) result { return result{l, at, e} }

// same holds two results against each other; a list without tokens is none.
func same(a, b result) bool { return slices.Equal(a.tokens, b.tokens) && a.at == b.at && a.e == b.e }

func numberAt(at, n int) api.Token {
	return api.Token{Kind: api.TValue, Value: api.Value{Kind: api.Num, N: n}, At: at}
}
func textAt(at int, s string) api.Token {
	return api.Token{Kind: api.TValue, Value: api.Value{Kind: api.Text, S: s}, At: at}
}
func truthAt(at int, b bool) api.Token {
	return api.Token{Kind: api.TValue, Value: api.Value{Kind: api.Bool, B: b}, At: at}
}
func faultAt(at int, c api.Code) api.Token {
	return api.Token{Kind: api.TValue, Value: api.Value{Kind: api.Fault, Code: c}, At: at}
}
func cellAt(at, row, col int, fixRow, fixCol bool) api.Token {
	return api.Token{Kind: api.TCell, Cell: api.Cell{At: api.At{Row: row, Col: col}, FixRow: fixRow, FixCol: fixCol}, At: at}
}
func nameAt(at int, s string) api.Token { return api.Token{Kind: api.TName, S: s, At: at} }
func signAt(at int, s string) api.Token { return api.Token{Kind: api.TOp, S: s, At: at} }
func endAt(at int) api.Token            { return api.Token{Kind: api.TEnd, At: at} }

func signsOfChapter() []string {
	return []string{"+", "-", "*", "/", "&", "=", "<>", "<=", ">=", "<", ">", "(", ")", ",", ":"}
}

func faultsOfChapter() []string {
	return []string{"#DIV/0!", "#VALUE!", "#REF!", "#NAME?", "#NUM!", "#N/A", "#CYCLE!"}
}

// inGreat turns small letters over one by one.
func inGreat(s string) string {
	out := []byte(s)
	for i, c := range out {
		if j := strings.IndexByte(small, c); j >= 0 {
			out[i] = great[j]
		}
	}
	return string(out)
}

func wantScan(s string) result {
	if len(s) > 1024 {
		return result{e: api.ErrBig}
	}
	var out []api.Token
	for i := 0; i < len(s); {
		if s[i] == 32 {
			i++
			continue
		}
		t, n, e := wantToken(s[i:])
		if e != api.OK {
			return result{at: i, e: e}
		}
		t.At = i
		out = append(out, t)
		i += n
	}
	return result{tokens: append(out, endAt(len(s)))}
}

func wantToken(s string) (api.Token, int, api.Errno) {
	if m := numberRow.FindString(s); m != "" {
		return wantNumber(m)
	}
	if s[0] == 34 {
		return wantText(s)
	}
	if m := faultRow.FindString(s); m != "" {
		return faultAt(0, api.Code(1+slices.Index(faultsOfChapter(), m))), len(m), api.OK
	}
	if m := wordRow.FindString(s); m != "" {
		return wantWord(m, len(m) < len(s) && s[len(m)] == 40)
	}
	if m := signRow.FindString(s); m != "" {
		return signAt(0, m), len(m), api.OK
	}
	return api.Token{}, 0, api.ErrSyntax
}

func wantNumber(m string) (api.Token, int, api.Errno) {
	r, ok := new(big.Rat).SetString(m)
	if len(m) > 40 || !numberForm.MatchString(m) || !ok {
		return api.Token{}, 0, api.ErrSyntax
	}
	r.Mul(r, big.NewRat(1000000, 1))
	if r.Cmp(big.NewRat(most, 1)) > 0 {
		return api.Token{}, 0, api.ErrOver
	}
	return numberAt(0, int(r.Num().Int64())), len(m), api.OK
}

// wantText goes through a text byte by byte, and over both quotes of a pair at once.
func wantText(s string) (api.Token, int, api.Errno) {
	var inner []byte
	for i := 1; i < len(s); i++ {
		if s[i] == 34 {
			if i+1 == len(s) || s[i+1] != 34 {
				if len(inner) > 255 {
					return api.Token{}, 0, api.ErrBig
				}
				return textAt(0, string(inner)), i + 1, api.OK
			}
			i++
		}
		inner = append(inner, s[i])
	}
	return api.Token{}, 0, api.ErrSyntax
}

func wantWord(m string, called bool) (api.Token, int, api.Errno) {
	if called {
		if !nameForm.MatchString(m) {
			return api.Token{}, 0, api.ErrSyntax
		}
		return nameAt(0, inGreat(m)), len(m), api.OK
	}
	if f := inGreat(m); f == "TRUE" || f == "FALSE" {
		return truthAt(0, f == "TRUE"), len(m), api.OK
	}
	p := cellForm.FindStringSubmatch(m)
	if p == nil {
		return api.Token{}, 0, api.ErrSyntax
	}
	col := 0
	for _, c := range inGreat(p[2]) {
		col = 26*col + strings.IndexRune(great, c) + 1
	}
	row, _ := new(big.Int).SetString(p[4], 10)
	if col > lastCol || row.Int64() > lastRow {
		return api.Token{}, 0, api.ErrEdge
	}
	return cellAt(0, int(row.Int64()), col, p[3] == "$", p[1] == "$"), len(m), api.OK
}

// pieces are texts of one token each, of all kinds, that are right by themselves (a name is not: it has its bracket).
func pieces() []string {
	out := append(signsOfChapter(), faultsOfChapter()...)
	return append(out,
		"0", "1", "7", "007.50", "1.5", "0.000001", "000", "1.000000", "1000000000000", "999999999999.999999", strings.Repeat("0", 40),
		`""`, `""""`, `"a"`, `" "`, `"   "`, `"a b"`, `"""a"`, `"a""b"`, `"a"""`, `"(1 + A1"`, `"é"`, "\"\xff\x00\n\"", `"`+strings.Repeat("x", 255)+`"`, `"`+strings.Repeat(`""`, 255)+`"`,
		"TRUE", "FALSE", "true", "fAlSe",
		"A1", "a1", "$A1", "A$1", "$A$1", "zz99", "$xFd$1048576", "XFD1", "A1048576", "LOG10",
		"SUM(", "sum(", "TRUE(", "A1(", "x(", "a.b_9(", "abcdefghijklmnopqrst(")
}

// wrongPieces are wrong by themselves.
func wrongPieces() []string {
	return []string{
		"1.2.3", "1.", "1..2", "0.0000001", "1000000000001", "1000000000000.000001", strings.Repeat("0", 41), strings.Repeat("9", 40),
		`"`, `"a`, `"""`, `"a""`, `"a"""b`, `"` + strings.Repeat("x", 256) + `"`, `"` + strings.Repeat(`""`, 256) + `"`, `"` + strings.Repeat("x", 300),
		"#", "##", "#n/a", "#NA", "#N/", "#DIV/0", "#REF", "#NAME", "#CYCLE?", "#TRUE",
		"$", "$$", "a", "A", "SUM", "A0", "A01", "1A", "A1A", "A1.5", "A_1", "$A(", "A$(", "$1", "$(", "AAAA1", "A12345678", "XFE1", "ZZZ1", "A1048577", "A9999999", "XFE9999999", "tru", "TRUE1", "TRUE.", "$TRUE", "abcdefghijklmnopqrstu(", "a$b(",
		";", "!", "'", "{", "}", "[", "]", ".", ".5", "_", "_a", "%", "^", "|", "~", "`", "@", "?", `\`, "\t", "\n", "\r", "\x00", "\x1f", "\x7f", "\x80", "\xa0", "\xff", "é", "１", "＋", "\u00a0",
	}
}

// scatteredText is made of pieces, right and, where wrong says so, now and then a wrong one, with and without blanks between, and by chance any byte.
func scatteredText(r *rand.Rand, wrong bool) string {
	right, bad := pieces(), wrongPieces()
	var out strings.Builder
	for range r.Intn(9) {
		out.WriteString(strings.Repeat(" ", r.Intn(3)))
		switch k := r.Intn(40); {
		case k == 0 && wrong:
			out.WriteString(bad[r.Intn(len(bad))])
		case k == 1 && wrong:
			out.WriteByte(byte(r.Intn(256)))
		default:
			out.WriteString(right[r.Intn(len(right))])
		}
	}
	return out.String()
}

// thickText is of bytes of which most have a part in tokens.
func thickText(r *rand.Rand) string {
	const from = `AAZaxz$$01199..__""""##N/A!?(()<>=<>=+-*&,:   ;` + "\xff"
	out := make([]byte, r.Intn(24))
	for i := range out {
		out[i] = from[r.Intn(len(from))]
	}
	return string(out)
}

// rightTexts are scattered ones that can be scanned.
func rightTexts(seed int64, many int) []string {
	r := rand.New(rand.NewSource(seed))
	out := []string{"", " ", "SUM(A1:$B$2)*2", `"a""b"`, "a1+#N/A", "3<>4", `IF(a1<>$B$2, "x""y" & 1.5 , #N/A)>=true`}
	for len(out) < many {
		s := scatteredText(r, false)
		if r.Intn(4) == 0 {
			s = thickText(r)
		}
		if wantScan(s).e == api.OK {
			out = append(out, s)
		}
	}
	return out
}
