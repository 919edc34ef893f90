package place

import (
	"math"
	"math/rand"
	"strings"
	"testing"

	"foolscap/api"
)

// P5.1
func TestLetters(t *testing.T) {
	for _, c := range []struct {
		col  int
		want string
	}{
		{1, "A"}, {2, "B"}, {25, "Y"}, {26, "Z"}, {27, "AA"}, {28, "AB"}, {51, "AY"}, {52, "AZ"}, {53, "BA"}, {701, "ZY"}, {702, "ZZ"}, {703, "AAA"}, {704, "AAB"}, {728, "AAZ"}, {729, "ABA"}, {1378, "AZZ"}, {1379, "BAA"}, {16383, "XFC"}, {16384, "XFD"},
	} {
		if got := asLetters(Letters(c.col)); got != (lettersResult{s: c.want}) {
			t.Errorf("Letters(%d) = %v, want %q", c.col, got, c.want)
		}
	}
	for i, s := range allLetters()[:lastCol] {
		if got := asLetters(Letters(i + 1)); got != (lettersResult{s: s}) {
			t.Errorf("Letters(%d) = %v, want %q", i+1, got, s)
		}
	}
	for _, col := range wrongColumns() {
		if got := asLetters(Letters(col)); got != (lettersResult{e: api.ErrArg}) {
			t.Errorf("Letters(%d) = %v, want ErrArg", col, got)
		}
	}
}

// P5.1
func TestColumn(t *testing.T) {
	for _, c := range []struct {
		s    string
		want intResult
	}{
		{"A", intResult{n: 1}}, {"a", intResult{n: 1}}, {"Z", intResult{n: 26}}, {"z", intResult{n: 26}}, {"AA", intResult{n: 27}}, {"aA", intResult{n: 27}}, {"Aa", intResult{n: 27}}, {"az", intResult{n: 52}}, {"ba", intResult{n: 53}}, {"ZZ", intResult{n: 702}}, {"AAA", intResult{n: 703}}, {"aAa", intResult{n: 703}},
		{"XFD", intResult{n: 16384}}, {"xfd", intResult{n: 16384}}, {"xFd", intResult{n: 16384}}, {"XFC", intResult{n: 16383}}, {"XFE", intResult{e: api.ErrEdge}}, {"xfe", intResult{e: api.ErrEdge}}, {"XGA", intResult{e: api.ErrEdge}}, {"YAA", intResult{e: api.ErrEdge}}, {"ZZZ", intResult{e: api.ErrEdge}}, {"zzz", intResult{e: api.ErrEdge}},
		{"", intResult{e: api.ErrSyntax}}, {"AAAA", intResult{e: api.ErrSyntax}}, {"aaaa", intResult{e: api.ErrSyntax}}, {"ZZZZ", intResult{e: api.ErrSyntax}}, {"XFE1", intResult{e: api.ErrSyntax}}, {"XFE ", intResult{e: api.ErrSyntax}}, {strings.Repeat("A", 100000), intResult{e: api.ErrSyntax}},
		{" ", intResult{e: api.ErrSyntax}}, {"A ", intResult{e: api.ErrSyntax}}, {" A", intResult{e: api.ErrSyntax}}, {"A A", intResult{e: api.ErrSyntax}}, {"1", intResult{e: api.ErrSyntax}}, {"A1", intResult{e: api.ErrSyntax}}, {"$A", intResult{e: api.ErrSyntax}}, {"A$", intResult{e: api.ErrSyntax}}, {"$", intResult{e: api.ErrSyntax}}, {"A\x00", intResult{e: api.ErrSyntax}}, {"\x00", intResult{e: api.ErrSyntax}}, {"A\n", intResult{e: api.ErrSyntax}},
		{"@", intResult{e: api.ErrSyntax}}, {"[", intResult{e: api.ErrSyntax}}, {"`", intResult{e: api.ErrSyntax}}, {"{", intResult{e: api.ErrSyntax}}, {"é", intResult{e: api.ErrSyntax}}, {"É", intResult{e: api.ErrSyntax}}, {"ſ", intResult{e: api.ErrSyntax}}, {"Aı", intResult{e: api.ErrSyntax}}, {"А", intResult{e: api.ErrSyntax}}, {"Ａ", intResult{e: api.ErrSyntax}}, {"\xc1", intResult{e: api.ErrSyntax}}, {"\xe1", intResult{e: api.ErrSyntax}}, {"A\xff", intResult{e: api.ErrSyntax}},
	} {
		if got := asInt(Column(c.s)); got != c.want {
			t.Errorf("Column(%q) = %v, want %v", c.s, got, c.want)
		}
	}
}

// P5.1: all letters, each great or small.
func TestColumnOfAllLetters(t *testing.T) {
	columns := columnsByLetters()
	for _, s := range allLetters() {
		for _, m := range mixtures(s) {
			if got, want := asInt(Column(m)), wantColumn(m, columns); got != want {
				t.Errorf("Column(%q) = %v, want %v", m, got, want)
			}
		}
	}
}

// P5.1: every byte at every place of texts of one to four letters.
func TestColumnOfAllBytes(t *testing.T) {
	columns := columnsByLetters()
	for _, s := range []string{"A", "zz", "XFD", "xfe", "AAAA"} {
		for i := range len(s) {
			for c := range 256 {
				text := s[:i] + string([]byte{byte(c)}) + s[i+1:]
				if got, want := asInt(Column(text)), wantColumn(text, columns); got != want {
					t.Errorf("Column(%q) = %v, want %v", text, got, want)
				}
			}
		}
	}
}

// P5.2
func TestPrint(t *testing.T) {
	for _, c := range []struct {
		c    api.Cell
		want string
	}{
		{cell(1, 1, false, false), "A1"}, {cell(1, 1, true, false), "A$1"}, {cell(1, 1, false, true), "$A1"}, {cell(1, 1, true, true), "$A$1"},
		{cell(7, 2, true, true), "$B$7"}, {cell(3, 3, true, false), "C$3"}, {cell(100, 27, false, true), "$AA100"}, {cell(20, 703, false, false), "AAA20"},
		{cell(lastRow, lastCol, false, false), "XFD1048576"}, {cell(lastRow, lastCol, true, true), "$XFD$1048576"}, {cell(lastRow, 1, false, false), "A1048576"}, {cell(1, lastCol, false, false), "XFD1"}, {cell(1000000, 702, true, false), "ZZ$1000000"},
	} {
		if got := asLetters(Print(c.c)); got != (lettersResult{s: c.want}) {
			t.Errorf("Print(%v) = %v, want %q", c.c, got, c.want)
		}
	}
	for _, a := range wrongPlaces() {
		for _, fix := range [][2]bool{{false, false}, {true, false}, {false, true}, {true, true}} {
			if got := asLetters(Print(cell(a.Row, a.Col, fix[0], fix[1]))); got != (lettersResult{e: api.ErrArg}) {
				t.Errorf("Print at %v = %v, want ErrArg", a, got)
			}
		}
	}
}

// P5.2
func TestParse(t *testing.T) {
	for _, c := range []struct {
		s    string
		want api.Cell
	}{
		{"$b$7", cell(7, 2, true, true)}, {"$B$7", cell(7, 2, true, true)}, {"b7", cell(7, 2, false, false)}, {"B$7", cell(7, 2, true, false)}, {"$B7", cell(7, 2, false, true)}, {"C$3", cell(3, 3, true, false)},
		{"A1", cell(1, 1, false, false)}, {"a1", cell(1, 1, false, false)}, {"aA10", cell(10, 27, false, false)}, {"Zz100", cell(100, 702, false, false)}, {"aAa1000", cell(1000, 703, false, false)}, {"xFd12345", cell(12345, lastCol, false, false)}, {"a123456", cell(123456, 1, false, false)}, {"A1000000", cell(1000000, 1, false, false)},
		{"XFD1048576", cell(lastRow, lastCol, false, false)}, {"$xfd$1048576", cell(lastRow, lastCol, true, true)}, {"A1048575", cell(lastRow-1, 1, false, false)}, {"A1048576", cell(lastRow, 1, false, false)}, {"XFD1", cell(1, lastCol, false, false)}, {"XFC1", cell(1, lastCol-1, false, false)},
	} {
		if got := asCell(Parse(c.s)); got != (cellResult{c: c.want}) {
			t.Errorf("Parse(%q) = %v, want %v", c.s, got, c.want)
		}
	}
}

// P5.2
func TestParseBeyondTheEdge(t *testing.T) {
	for _, s := range []string{"A1048577", "a1048577", "$A$1048577", "A1048580", "A1050000", "A2000000", "A9999999", "XFE1", "xfe1", "$XFE1", "XFE$1", "$XFE$1", "XGA1", "YAA1", "ZZZ1", "zzz1", "XFE1048576", "XFD1048577", "XFE1048577", "ZZZ9999999", "$zzz$9999999"} {
		if got := asCell(Parse(s)); got != (cellResult{e: api.ErrEdge}) {
			t.Errorf("Parse(%q) = %v, want ErrEdge", s, got)
		}
	}
}

// P5.2: what is no cell is none though it would lie beyond the edge, too.
func TestParseOfNoCells(t *testing.T) {
	for _, s := range []string{
		"", "$", "$$", "$$$", "A", "a", "XFD", "XFE", "ZZZ", "$A", "A$", "$A$", "1", "7", "$1", "$$1", "1048577",
		"B07", "B0", "B00", "A01", "A0000001", "A$0", "A$01", "$A$07", "A01048577", "XFE0", "XFE01", "A00000001", "A0000000",
		"AAAA1", "aaaa1", "AAAA", "$AAAA$1", "ZZZZ1", "A12345678", "A10485760", "A99999999", "XFE12345678", "A$12345678", "A" + strings.Repeat("1", 100000), strings.Repeat("A", 100000) + "1",
		"$$A1", "A$$1", "A1$", "$A1$", "$A$1$", "A$1$", "A1$1", "$1A", "$1$A", "A$A1", "AA$A1", "A$A$1", "1A", "1A1", "A1A", "A1A1", "A1B2",
		" ", " A1", "A1 ", "A 1", "$ A1", "A$ 1", "$A $1", "A1 1", "A\t1", "A1\n", "\nA1", "A1\x00", "A\x001", "\x00A1",
		"A-1", "A+1", "A1.0", "A1,0", "A1e2", "A1:B2", "A:A", "1:1", "R1C1", "=A1", "#A1", "A_1", "_1", "@1", "[1", "`1", "{1", "A/", "A:",
		"é1", "É1", "Aé1", "ſ1", "ı1", "А1", "Ａ1", "A１", "A٣", "A²", "\xc11", "\xe11", "\xff1", "A\xff1", "A1\xff", "A\xb1", "\xa4A1", "A1\x80", "＄A1",
	} {
		if got := asCell(Parse(s)); got != (cellResult{e: api.ErrSyntax}) {
			t.Errorf("Parse(%q) = %v, want ErrSyntax", s, got)
		}
	}
}

// P5.2: every byte in the stead of each byte of a cell's text, and ahead of each, and behind the last.
func TestParseOfAllBytes(t *testing.T) {
	columns := columnsByLetters()
	for _, s := range []string{"A1", "$B$7", "AZ10", "$xfd1048576", "XFD$1048576", "aaa9999999", "$XFE$1", "Zz$0"} {
		for i := range len(s) + 1 {
			for c := range 256 {
				for _, behind := range []string{s[i:], s[min(i+1, len(s)):]} {
					text := s[:i] + string([]byte{byte(c)}) + behind
					if got, want := asCell(Parse(text)), wantParse(text, columns); got != want {
						t.Errorf("Parse(%q) = %v, want %v", text, got, want)
					}
				}
			}
		}
	}
}

// P5.2: every text of up to six bytes of each kind.
func TestParseOfAllForms(t *testing.T) {
	columns := columnsByLetters()
	texts := []string{""}
	for range 6 {
		var longer []string
		for _, s := range texts {
			for _, c := range []string{"$", "X", "f", "0", "4", " "} {
				longer = append(longer, s+c)
			}
		}
		for _, s := range longer {
			if got, want := asCell(Parse(s)), wantParse(s, columns); got != want {
				t.Errorf("Parse(%q) = %v, want %v", s, got, want)
			}
		}
		texts = longer
	}
}

// P5.2
func TestParseOfScatteredTexts(t *testing.T) {
	columns, r := columnsByLetters(), rand.New(rand.NewSource(1))
	for range 200000 {
		s := scatteredText(r)
		if got, want := asCell(Parse(s)), wantParse(s, columns); got != want {
			t.Errorf("Parse(%q) = %v, want %v", s, got, want)
		}
	}
}

// P5.5: a cell, written, is read as it was, in small letters too.
func TestCellsThereAndBack(t *testing.T) {
	cells := func(a api.At) {
		for _, fix := range [][2]bool{{false, false}, {true, false}, {false, true}, {true, true}} {
			c := cell(a.Row, a.Col, fix[0], fix[1])
			s, e := Print(c)
			if e != api.OK {
				t.Fatalf("Print(%v) is refused: %d", c, e)
			}
			if got, low := asCell(Parse(s)), asCell(Parse(strings.ToLower(s))); got != (cellResult{c: c}) || low != got {
				t.Errorf("%v is written %q, and that is read as %v, %v", c, s, got, low)
			}
		}
	}
	for _, a := range edgePlaces() {
		cells(a)
	}
	for col := 1; col <= lastCol; col++ {
		cells(at(1+col*63%lastRow, col))
	}
	for row := 1; row <= lastRow; row += 97 {
		cells(at(row, 1+row%lastCol))
	}
}

// P5.5: a text that is read as a cell is, in great letters, what is written of it.
func TestTextsThereAndBack(t *testing.T) {
	r := rand.New(rand.NewSource(2))
	for range 100000 {
		s := scatteredText(r)
		c, e := Parse(s)
		if e != api.OK {
			continue
		}
		if got := asLetters(Print(c)); got != (lettersResult{s: inGreat(s)}) {
			t.Errorf("%q is read as %v, and that is written %v", s, c, got)
		}
	}
}

// P5.5: letters are those of their column, and of no other.
func TestLettersThereAndBack(t *testing.T) {
	columns := map[string]int{}
	for col := 1; col <= lastCol; col++ {
		s, e := Letters(col)
		if e != api.OK {
			t.Fatalf("Letters(%d) is refused: %d", col, e)
		}
		if other := columns[s]; other != 0 {
			t.Errorf("%q are the letters of %d and of %d", s, other, col)
		}
		columns[s] = col
		if got := asInt(Column(s)); got != (intResult{n: col}) {
			t.Errorf("%q, the letters of %d, are those of %v", s, col, got)
		}
	}
}

// P5.6
func TestRowOfLetters(t *testing.T) {
	last, _ := Letters(1)
	for col := 2; col <= lastCol; col++ {
		s, _ := Letters(col)
		if len(s) < len(last) || len(s) == len(last) && s <= last {
			t.Errorf("%q, the letters of %d, do not stand behind %q", s, col, last)
		}
		last = s
	}
	for _, a := range edgeColumns() {
		for _, b := range edgeColumns() {
			s, _ := Letters(a)
			u, _ := Letters(b)
			if (a < b) != (len(s) < len(u) || len(s) == len(u) && s < u) {
				t.Errorf("the columns %d and %d have the letters %q and %q", a, b, s, u)
			}
		}
	}
}

// P5.1, P5.2: the ends of int are no columns and no rows, however they wrap round.
func TestEndsOfInt(t *testing.T) {
	for _, n := range []int{math.MinInt, math.MinInt + 1, math.MaxInt, math.MaxInt - 1} {
		if got := asLetters(Letters(n)); got != (lettersResult{e: api.ErrArg}) {
			t.Errorf("Letters(%d) = %v", n, got)
		}
		for _, a := range []api.At{at(n, 1), at(1, n), at(n, n)} {
			if got := asLetters(Print(api.Cell{At: a})); got != (lettersResult{e: api.ErrArg}) {
				t.Errorf("Print at %v = %v", a, got)
			}
		}
	}
}
