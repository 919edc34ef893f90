package value

import (
	"slices"
	"strings"
	"testing"

	"foolscap/api"
)

// P4.1
func TestCheck(t *testing.T) {
	for _, v := range append(rightValues(), scattered(1, 2000)...) {
		if e := Check(v); e != api.OK {
			t.Errorf("Check(%#v) = %d, want OK", v, e)
		}
	}
	for _, v := range wrongValues() {
		if e := Check(v); e != api.ErrArg {
			t.Errorf("Check(%#v) = %d, want ErrArg", v, e)
		}
	}
}

// P4.1
func TestFold(t *testing.T) {
	for _, c := range []struct{ s, want string }{
		{"", ""}, {"az{é", "AZ{é"}, {"AZ", "AZ"}, {"abcdefghijklmnopqrstuvwxyz", "ABCDEFGHIJKLMNOPQRSTUVWXYZ"},
		{"`a@A[z{", "`A@A[Z{"}, {"ß ſ ı é ж", "ß ſ ı é ж"}, {"\xc3a\xff", "\xc3A\xff"}, {"\xc1\xa1", "\xc1\xa1"}, {"a\xef\xbf\xbdb", "A\xef\xbf\xbdB"}, {"\x00a\x00", "\x00A\x00"},
	} {
		if got := Fold(c.s); got != c.want {
			t.Errorf("Fold(%q) = %q, want %q", c.s, got, c.want)
		}
	}
	for _, s := range append(texts(), longTexts()...) {
		if got := Fold(s); got != wantFold(s) || Fold(got) != got {
			t.Errorf("Fold(%q) = %q, want %q", s, got, wantFold(s))
		}
	}
}

// P4.1: every byte alone, and every pair of bytes: a rune's bytes hide no letter.
func TestFoldOfAllBytes(t *testing.T) {
	for i := range 256 {
		for j := range 256 {
			for _, s := range []string{string([]byte{byte(i)}), string([]byte{byte(i), byte(j)}), string([]byte{byte(i), byte(j), 'q'})} {
				if got := Fold(s); got != wantFold(s) {
					t.Fatalf("Fold(%q) = %q, want %q", s, got, wantFold(s))
				}
			}
		}
	}
}

// P4.2
func TestWrongValuesCountForNothing(t *testing.T) {
	for _, v := range wrongValues() {
		if got := asInt(Number(v)); got != (intResult{c: api.Wrong}) {
			t.Errorf("Number(%#v) = %v, want Wrong", v, got)
		}
		if got := asText(Words(v)); got != (textResult{c: api.Wrong}) {
			t.Errorf("Words(%#v) = %v, want Wrong", v, got)
		}
		if got := asBool(Truth(v)); got != (boolResult{c: api.Wrong}) {
			t.Errorf("Truth(%#v) = %v, want Wrong", v, got)
		}
	}
}

// P4.2
func TestFaultsCountForTheirCodes(t *testing.T) {
	for c := range faultNames() {
		n, s, b := asInt(Number(faultOf(c))), asText(Words(faultOf(c))), asBool(Truth(faultOf(c)))
		if n != (intResult{c: c}) || s != (textResult{c: c}) || b != (boolResult{c: c}) {
			t.Errorf("the fault %d counts for %v, %v, %v", c, n, s, b)
		}
	}
}

// P4.2
func TestNumber(t *testing.T) {
	for _, c := range []struct {
		v    api.Value
		want intResult
	}{
		{textOf("7.5"), intResult{n: 7500000}}, {textOf("x"), intResult{c: api.Wrong}}, {truthOf(true), intResult{n: 1000000}}, {truthOf(false), intResult{}}, {blank, intResult{}},
		{numberOf(0), intResult{}}, {numberOf(most), intResult{n: most}}, {numberOf(-most), intResult{n: -most}}, {numberOf(-1), intResult{n: -1}},
		{textOf(""), intResult{c: api.Wrong}}, {textOf("-007.50"), intResult{n: -7500000}}, {textOf(".5"), intResult{c: api.Wrong}}, {textOf(" 1"), intResult{c: api.Wrong}}, {textOf("TRUE"), intResult{c: api.Wrong}},
		{textOf("1000000000000"), intResult{n: most}}, {textOf("-1000000000000"), intResult{n: -most}}, {textOf("1000000000000.000001"), intResult{c: api.Wrong}}, {textOf("-1000000000001"), intResult{c: api.Wrong}},
		{textOf(strings.Repeat("1", 255)), intResult{c: api.Wrong}}, {textOf("#N/A"), intResult{c: api.Wrong}}, {textOf("0.0000001"), intResult{c: api.Wrong}},
	} {
		if got := asInt(Number(c.v)); got != c.want {
			t.Errorf("Number(%#v) = %v, want %v", c.v, got, c.want)
		}
	}
}

// P4.2
func TestWords(t *testing.T) {
	for _, c := range []struct {
		v    api.Value
		want string
	}{
		{blank, ""}, {textOf(""), ""}, {textOf("aB"), "aB"}, {textOf("007.50"), "007.50"}, {textOf("true"), "true"}, {textOf("\xff\x00"), "\xff\x00"}, {textOf(strings.Repeat("x", 255)), strings.Repeat("x", 255)},
		{truthOf(true), "TRUE"}, {truthOf(false), "FALSE"},
		{numberOf(0), "0"}, {numberOf(-500000), "-0.5"}, {numberOf(1), "0.000001"}, {numberOf(7500000), "7.5"}, {numberOf(most), "1000000000000"}, {numberOf(-most), "-1000000000000"}, {numberOf(most - 1), "999999999999.999999"},
	} {
		if got := asText(Words(c.v)); got != (textResult{s: c.want}) {
			t.Errorf("Words(%#v) = %v, want %q", c.v, got, c.want)
		}
	}
}

// P4.2
func TestTruth(t *testing.T) {
	for _, c := range []struct {
		v    api.Value
		want boolResult
	}{
		{blank, boolResult{}}, {truthOf(true), boolResult{b: true}}, {truthOf(false), boolResult{}},
		{numberOf(0), boolResult{}}, {numberOf(1), boolResult{b: true}}, {numberOf(-1), boolResult{b: true}}, {numberOf(most), boolResult{b: true}}, {numberOf(-most), boolResult{b: true}},
		{textOf("TRUE"), boolResult{b: true}}, {textOf("tRuE"), boolResult{b: true}}, {textOf("FALSE"), boolResult{}}, {textOf("fAlSe"), boolResult{}},
		{textOf(""), boolResult{c: api.Wrong}}, {textOf("yes"), boolResult{c: api.Wrong}}, {textOf("1"), boolResult{c: api.Wrong}}, {textOf("0"), boolResult{c: api.Wrong}}, {textOf("TRUE "), boolResult{c: api.Wrong}}, {textOf("falſe"), boolResult{c: api.Wrong}}, {textOf("#N/A"), boolResult{c: api.Wrong}},
	} {
		if got := asBool(Truth(c.v)); got != c.want {
			t.Errorf("Truth(%#v) = %v, want %v", c.v, got, c.want)
		}
	}
}

// P4.2
func TestAllCounts(t *testing.T) {
	for _, v := range append(rightValues(), scattered(2, 20000)...) {
		if got, want := asInt(Number(v)), wantNumber(v); got != want {
			t.Errorf("Number(%#v) = %v, want %v", v, got, want)
		}
		if got, want := asText(Words(v)), wantWords(v); got != want {
			t.Errorf("Words(%#v) = %v, want %v", v, got, want)
		}
		if got, want := asBool(Truth(v)), wantTruth(v); got != want {
			t.Errorf("Truth(%#v) = %v, want %v", v, got, want)
		}
	}
}

// P4.3
func TestCompare(t *testing.T) {
	long := strings.Repeat("x", 254)
	for _, c := range []struct {
		a, b api.Value
		want int
	}{
		{blank, blank, 0}, {blank, numberOf(0), 0}, {blank, textOf(""), 0}, {blank, truthOf(false), 0},
		{blank, numberOf(1), -1}, {blank, numberOf(-1), 1}, {blank, numberOf(-most), 1}, {blank, numberOf(most), -1}, {blank, textOf("a"), -1}, {blank, textOf("\x00"), -1}, {blank, textOf("-1"), -1}, {blank, truthOf(true), -1},
		{numberOf(-most), numberOf(most), -1}, {numberOf(1), numberOf(2), -1}, {numberOf(-1), numberOf(1), -1}, {numberOf(-2), numberOf(-1), -1}, {numberOf(most), numberOf(most), 0}, {numberOf(most - 1), numberOf(most), -1},
		{textOf("a"), textOf("B"), -1}, {textOf("A"), textOf("b"), -1}, {textOf("b"), textOf("A"), 1}, {textOf("aB"), textOf("Ab"), 0}, {textOf("tRuE"), textOf("TRUE"), 0},
		{textOf("A"), textOf("ab"), -1}, {textOf("ab"), textOf("abc"), -1}, {textOf(""), textOf("\x00"), -1}, {textOf("a"), textOf("a\x00"), -1}, {textOf(long), textOf(long + "X"), -1}, {textOf(long + "x"), textOf(long + "X"), 0}, {textOf(long + "a"), textOf(long + "B"), -1},
		{textOf("a"), textOf("_"), -1}, {textOf("z"), textOf("["), -1}, {textOf("@"), textOf("a"), -1}, {textOf("z"), textOf("{"), -1}, {textOf("`"), textOf("a"), 1},
		{textOf("z"), textOf("é"), -1}, {textOf("é"), textOf("É"), 1}, {textOf("\x80"), textOf("\xff"), -1}, {textOf("\xc3a"), textOf("\xc3B"), -1}, {textOf("\xc3a"), textOf("\xc3A"), 0}, {textOf("\xff"), textOf("\xef\xbf\xbd"), 1}, {textOf("\xfe"), textOf("\xff"), -1},
		{textOf("10"), textOf("9"), -1}, {textOf("7.5"), textOf("7.50"), -1},
		{truthOf(false), truthOf(true), -1}, {truthOf(true), truthOf(true), 0}, {truthOf(false), truthOf(false), 0},
		{numberOf(2000000), textOf("1"), -1}, {numberOf(most), textOf(""), -1}, {numberOf(0), textOf("0"), -1}, {numberOf(most), truthOf(false), -1}, {numberOf(0), truthOf(false), -1}, {numberOf(1000000), truthOf(true), -1},
		{textOf("z"), truthOf(false), -1}, {textOf("TRUE"), truthOf(true), -1}, {textOf("\xff"), truthOf(false), -1}, {textOf(strings.Repeat("\xff", 255)), truthOf(false), -1},
	} {
		if got := asInt(Compare(c.a, c.b)); got != (intResult{n: c.want}) {
			t.Errorf("Compare(%#v, %#v) = %v, want %d", c.a, c.b, got, c.want)
		}
		if got := asInt(Compare(c.b, c.a)); got != (intResult{n: -c.want}) {
			t.Errorf("Compare(%#v, %#v) = %v, want %d", c.b, c.a, got, -c.want)
		}
	}
}

// P4.3: what is not right goes ahead of faults, on either side, and of two faults the first one is told.
func TestCompareOfFaults(t *testing.T) {
	for a := range faultNames() {
		for b := range faultNames() {
			if got := asInt(Compare(faultOf(a), faultOf(b))); got != (intResult{c: a}) {
				t.Errorf("Compare of the faults %d and %d = %v", a, b, got)
			}
		}
		for _, v := range []api.Value{blank, numberOf(0), numberOf(most), textOf(""), textOf("#N/A"), truthOf(false), truthOf(true)} {
			if got, back := asInt(Compare(faultOf(a), v)), asInt(Compare(v, faultOf(a))); got != (intResult{c: a}) || back != got {
				t.Errorf("Compare of the fault %d and %#v = %v, %v", a, v, got, back)
			}
		}
	}
}

// P4.3
func TestWrongValuesAreNotCompared(t *testing.T) {
	some := append(slices.Clone(wrongValues()), blank, numberOf(0), numberOf(5), textOf(""), textOf("a"), truthOf(true), truthOf(false))
	for c := range faultNames() {
		some = append(some, faultOf(c))
	}
	for _, w := range wrongValues() {
		for _, v := range some {
			if got, back := asInt(Compare(w, v)), asInt(Compare(v, w)); got != (intResult{c: api.Wrong}) || back != got {
				t.Errorf("Compare of %#v and %#v = %v, %v, want Wrong", w, v, got, back)
			}
			if Alike(w, v) || Alike(v, w) || Alike(w, w) {
				t.Errorf("%#v, which is not right, is like %#v, or like itself", w, v)
			}
		}
	}
}

// P4.3
func TestAlike(t *testing.T) {
	for _, c := range []struct {
		a, b api.Value
		want bool
	}{
		{blank, blank, true}, {numberOf(5), numberOf(5), true}, {numberOf(5), numberOf(-5), false}, {textOf("aB"), textOf("Ab"), true}, {textOf("a"), textOf("b"), false}, {textOf("a"), textOf("aa"), false}, {truthOf(true), truthOf(true), true}, {truthOf(true), truthOf(false), false}, {faultOf(6), faultOf(6), true}, {faultOf(6), faultOf(5), false},
		{blank, numberOf(0), false}, {blank, textOf(""), false}, {blank, truthOf(false), false}, {numberOf(0), textOf(""), false}, {numberOf(0), truthOf(false), false}, {textOf(""), truthOf(false), false}, {numberOf(1000000), textOf("1"), false}, {textOf("TRUE"), truthOf(true), false}, {textOf("#N/A"), faultOf(6), false},
		{textOf("é"), textOf("É"), false}, {textOf("\xc3a"), textOf("\xc3A"), true}, {textOf("\xff"), textOf("\xfe"), false}, {textOf("\xff"), textOf("\xef\xbf\xbd"), false}, {textOf("7.5"), textOf("7.50"), false}, {textOf("["), textOf("{"), false},
	} {
		if got, back := Alike(c.a, c.b), Alike(c.b, c.a); got != c.want || back != c.want {
			t.Errorf("Alike of %#v and %#v = %v, %v, want %v", c.a, c.b, got, back, c.want)
		}
	}
}

// P4.3
func TestAllPairs(t *testing.T) {
	for _, l := range [][]api.Value{rightValues(), scattered(3, 600)} {
		for _, a := range l {
			for _, b := range l {
				if got, want := asInt(Compare(a, b)), wantCompare(a, b); got != want {
					t.Errorf("Compare(%#v, %#v) = %v, want %v", a, b, got, want)
				}
				if got, want := Alike(a, b), wantAlike(a, b); got != want {
					t.Errorf("Alike(%#v, %#v) = %v, want %v", a, b, got, want)
				}
			}
		}
	}
}

// P4.4
func TestShow(t *testing.T) {
	for c, name := range faultNames() {
		if got := asShown(Show(faultOf(c))); got != (shownResult{s: name}) {
			t.Errorf("Show of the fault %d = %v, want %q", c, got, name)
		}
	}
	for _, c := range []struct {
		v    api.Value
		want string
	}{
		{blank, ""}, {textOf(""), ""}, {textOf("aB"), "aB"}, {numberOf(-500000), "-0.5"}, {numberOf(most), "1000000000000"}, {numberOf(-most), "-1000000000000"}, {truthOf(true), "TRUE"}, {truthOf(false), "FALSE"}, {textOf("#n/a"), "#n/a"}, {textOf(strings.Repeat("x", 255)), strings.Repeat("x", 255)},
	} {
		if got := asShown(Show(c.v)); got != (shownResult{s: c.want}) {
			t.Errorf("Show(%#v) = %v, want %q", c.v, got, c.want)
		}
	}
	for _, v := range wrongValues() {
		if got := asShown(Show(v)); got != (shownResult{e: api.ErrArg}) {
			t.Errorf("Show(%#v) = %v, want ErrArg", v, got)
		}
	}
	for _, v := range append(rightValues(), scattered(4, 20000)...) {
		if want := wantWords(v); want.c == api.None {
			if got := asShown(Show(v)); got != (shownResult{s: want.s}) {
				t.Errorf("Show(%#v) = %v, want %q", v, got, want.s)
			}
		}
	}
}

// P4.4
func TestRead(t *testing.T) {
	for _, c := range []struct {
		s    string
		want api.Value
	}{
		{"", blank}, {" ", textOf(" ")}, {"\x00", textOf("\x00")},
		{"true", truthOf(true)}, {"TRUE", truthOf(true)}, {"tRuE", truthOf(true)}, {"False", truthOf(false)}, {"TRUE ", textOf("TRUE ")}, {"falſe", textOf("falſe")},
		{"#N/A", faultOf(6)}, {"#n/a", textOf("#n/a")}, {"#N/a", textOf("#N/a")}, {"#CYCLE!", faultOf(7)}, {"#DIV/0!", faultOf(1)}, {"#div/0!", textOf("#div/0!")}, {"#VALUE", textOf("#VALUE")}, {" #REF!", textOf(" #REF!")},
		{"7.5", numberOf(7500000)}, {"007.50", numberOf(7500000)}, {"-0", numberOf(0)}, {"1000000000000", numberOf(most)}, {"-1000000000000", numberOf(-most)}, {"0.000001", numberOf(1)}, {strings.Repeat("0", 40), numberOf(0)},
		{"1000000000001", textOf("1000000000001")}, {"-1000000000000.000001", textOf("-1000000000000.000001")}, {strings.Repeat("0", 41), textOf(strings.Repeat("0", 41))}, {"0.0000001", textOf("0.0000001")}, {"1.", textOf("1.")}, {"+1", textOf("+1")}, {" 1", textOf(" 1")},
		{strings.Repeat("9", 255), textOf(strings.Repeat("9", 255))}, {strings.Repeat("x", 255), textOf(strings.Repeat("x", 255))}, {"aB\xff", textOf("aB\xff")},
	} {
		if got := asRead(Read(c.s)); got != (readResult{v: c.want}) {
			t.Errorf("Read(%q) = %#v, want %#v", c.s, got, c.want)
		}
	}
	for c, name := range faultNames() {
		if got := asRead(Read(name)); got != (readResult{v: faultOf(c)}) {
			t.Errorf("Read(%q) = %#v, want the fault %d", name, got, c)
		}
	}
	for _, s := range longTexts() {
		if got := asRead(Read(s)); got != (readResult{e: api.ErrBig}) {
			t.Errorf("Read of %d bytes = %#v, want ErrBig", len(s), got)
		}
	}
	all := texts()
	for _, v := range scattered(5, 20000) {
		all = append(all, v.S)
	}
	for _, s := range all {
		if got, want := asRead(Read(s)), wantRead(s); got != want {
			t.Errorf("Read(%q) = %#v, want %#v", s, got, want)
		}
	}
}

// P4.5: what is shown is read as it was; a text that is not is one that reads as something else than a text, and what is read is right.
func TestThereAndBack(t *testing.T) {
	for _, v := range append(rightValues(), scattered(6, 20000)...) {
		s, e := Show(v)
		if e != api.OK {
			t.Fatalf("Show(%#v) is refused: %d", v, e)
		}
		got, e := Read(s)
		if e != api.OK || Check(got) != api.OK {
			t.Fatalf("Read(%q) = %#v, %d", s, got, e)
		}
		if got != v && (v.Kind != api.Text || got.Kind == api.Text || wantRead(v.S).v != got) {
			t.Errorf("%#v is shown as %q, and that is read as %#v", v, s, got)
		}
	}
}

// P4.6: each value is like itself, two are in one order whichever is asked first, and of three the order goes through; those that are like each other are so beside every third.
func TestOrder(t *testing.T) {
	all := append(rightValues(), scattered(7, 400)...)
	all = slices.DeleteFunc(all, func(v api.Value) bool { return v.Kind == api.Blank || v.Kind == api.Fault })
	order := func(a, b api.Value) int {
		n, c := Compare(a, b)
		if c != api.None || n < -1 || n > 1 {
			t.Fatalf("Compare(%#v, %#v) = %d, %d", a, b, n, c)
		}
		return n
	}
	slices.SortFunc(all, order)
	for i, a := range all {
		if order(a, a) != 0 {
			t.Errorf("%#v is not like itself", a)
		}
		last := 0
		for _, b := range all[i:] {
			n := order(a, b)
			if n != -order(b, a) || n > last {
				t.Fatalf("%#v and %#v are out of order: %d", a, b, n)
			}
			if (n == 0) != Alike(a, b) {
				t.Errorf("%#v and %#v: compared %d, alike %v", a, b, n, Alike(a, b))
			}
			last = n
		}
	}
}

// P4.7
func TestCountsThereAndBack(t *testing.T) {
	for _, v := range append(rightValues(), scattered(8, 20000)...) {
		switch v.Kind {
		case api.Num:
			s, c := Words(v)
			if got := asInt(Number(textOf(s))); c != api.None || got != (intResult{n: v.N}) {
				t.Errorf("the text %q of %d counts for %v", s, v.N, got)
			}
		case api.Bool:
			n, c := Number(v)
			if got := asBool(Truth(numberOf(n))); c != api.None || got != (boolResult{b: v.B}) {
				t.Errorf("the number %d of %v counts for %v", n, v.B, got)
			}
			s, _ := Words(v)
			if got := asBool(Truth(textOf(s))); got != (boolResult{b: v.B}) {
				t.Errorf("the text %q of %v counts for %v", s, v.B, got)
			}
		}
	}
}
