package crit

import (
	"math/rand"
	"strings"
	"testing"

	"foolscap/api"
)

// asksOf holds Of against what is wanted and against the second telling.
func asksOf(t *testing.T, v api.Value, want ofResult) {
	t.Helper()
	got := asOf(Of(v))
	if got != want {
		t.Errorf("Of(%#v) = %#v, want %#v", v, got, want)
	}
	if got != wantOf(v) {
		t.Errorf("Of(%#v) = %#v, by the second telling %#v", v, got, wantOf(v))
	}
}

// P13.1
func TestOfWhatStandsBehindASign(t *testing.T) {
	for _, behind := range []struct {
		s string
		v api.Value
	}{
		{"", blank}, {"5", numberOf(5 * unit)}, {"7.5", numberOf(7500000)}, {"-7", numberOf(-7 * unit)}, {"0", numberOf(0)}, {"-0", numberOf(0)}, {"0.000001", numberOf(1)}, {"1000000000000", numberOf(most)}, {"1000000000001", textOf("1000000000001")}, {"0.0000001", textOf("0.0000001")},
		{"TRUE", truthOf(true)}, {"true", truthOf(true)}, {"False", truthOf(false)}, {"#DIV/0!", faultOf(api.Div)}, {"#VALUE!", faultOf(api.Wrong)}, {"#REF!", faultOf(api.Ref)}, {"#NAME?", faultOf(api.Name)}, {"#NUM!", faultOf(api.Range)}, {"#N/A", faultOf(api.NA)}, {"#CYCLE!", faultOf(api.Cycle)}, {"#n/a", textOf("#n/a")},
		{"x", textOf("x")}, {"Abc", textOf("Abc")}, {" x", textOf(" x")}, {"x ", textOf("x ")}, {" x ", textOf(" x ")}, {" 5", textOf(" 5")}, {"5 ", textOf("5 ")}, {" TRUE ", textOf(" TRUE ")}, {" #N/A", textOf(" #N/A")}, {" ", textOf(" ")}, {"\t", textOf("\t")}, {" =", textOf(" =")}, {" <>x", textOf(" <>x")},
		{"a*", textOf("a*")}, {"?", textOf("?")}, {"~*", textOf("~*")}, {"~", textOf("~")}, {"~=", textOf("~=")}, {"a=5", textOf("a=5")}, {"!=5", textOf("!=5")}, {"\xff", textOf("\xff")}, {"\x00", textOf("\x00")}, {"≤5", textOf("≤5")},
	} {
		for _, sign := range allSigns() {
			asksOf(t, textOf(sign+behind.s), wantCrit(sign, behind.v))
		}
		asksOf(t, textOf(behind.s), wantCrit("=", behind.v))
	}
}

// P13.1: the longest sign is taken, and what stands behind it is none any more.
func TestOfOneSignBehindAnother(t *testing.T) {
	for _, c := range []struct{ s, sign, behind string }{
		{"==", "=", "="}, {"=<", "=", "<"}, {"=>", "=", ">"}, {"=<>", "=", "<>"}, {"=<=", "=", "<="}, {"=>=", "=", ">="}, {"=>=5", "=", ">=5"}, {"==5", "=", "=5"},
		{"<<", "<", "<"}, {"<<>", "<", "<>"}, {"<<=", "<", "<="}, {"<>>", "<>", ">"}, {"<><", "<>", "<"}, {"<>=", "<>", "="}, {"<><>", "<>", "<>"}, {"<>>=", "<>", ">="}, {"<>=5", "<>", "=5"}, {"<>>5", "<>", ">5"},
		{"<=<", "<=", "<"}, {"<=>", "<=", ">"}, {"<==", "<=", "="}, {"<=<=", "<=", "<="}, {"<=<>", "<=", "<>"}, {"<==5", "<=", "=5"},
		{"><", ">", "<"}, {">>", ">", ">"}, {"><>", ">", "<>"}, {"><=", ">", "<="}, {">>=", ">", ">="}, {">>5", ">", ">5"}, {">=>", ">=", ">"}, {">=<", ">=", "<"}, {">==", ">=", "="}, {">=>=", ">=", ">="}, {">==TRUE", ">=", "=TRUE"},
	} {
		asksOf(t, textOf(c.s), wantCrit(c.sign, textOf(c.behind)))
	}
}

// P13.1
func TestOfTextsAtTheLimit(t *testing.T) {
	for _, length := range []int{253, 254, 255} {
		s := strings.Repeat("x", length)
		asksOf(t, textOf(s), wantCrit("=", textOf(s)))
		for _, sign := range allSigns() {
			rest := s[len(sign):]
			asksOf(t, textOf(sign+rest), wantCrit(sign, textOf(rest)))
		}
	}
	for _, length := range []int{256, 257, 1000} {
		s := strings.Repeat("x", length)
		asksOf(t, textOf(s), ofResult{code: api.Wrong})
		for _, sign := range allSigns() {
			asksOf(t, textOf(sign+s[len(sign):]), ofResult{code: api.Wrong})
		}
	}
	// With more than 255 bytes it is refused even if what is behind the sign would be no text.
	asksOf(t, textOf("="+strings.Repeat("0", 255)), ofResult{code: api.Wrong})
	asksOf(t, textOf(strings.Repeat("0", 256)), ofResult{code: api.Wrong})
}

// P13.1
func TestOfOtherValues(t *testing.T) {
	for _, v := range rightValues() {
		if v.Kind != api.Text {
			asksOf(t, v, wantCrit("=", v))
		}
	}
	for _, v := range wrongValues() {
		asksOf(t, v, ofResult{code: api.Wrong})
	}
}

// P13.1
func TestOfAsTheSecondTellingHasIt(t *testing.T) {
	r := rand.New(rand.NewSource(1))
	for _, s := range wordsOver("<>=5a ", 4) {
		asksOf(t, textOf(s), wantOf(textOf(s)))
	}
	for range 20000 {
		v := textOf(scatteredText(r, 12))
		asksOf(t, v, wantOf(v))
	}
}

// P13.2
func TestCheck(t *testing.T) {
	asks := func(c api.Crit, want api.Errno) {
		t.Helper()
		if got := Check(c); got != want || got != wantCheck(c) {
			t.Errorf("Check(%#v) = %d, want %d, by the second telling %d", c, got, want, wantCheck(c))
		}
	}
	for _, v := range rightValues() {
		for _, sign := range allSigns() {
			asks(critOf(sign, v), api.OK)
		}
		for _, sign := range wrongSigns() {
			asks(critOf(sign, v), api.ErrArg)
		}
	}
	for _, v := range wrongValues() {
		for _, sign := range append(allSigns(), wrongSigns()...) {
			asks(critOf(sign, v), api.ErrArg)
		}
	}
	asks(api.Crit{}, api.ErrArg)
}

// P13.2: what Of tells is right.
func TestWhatOfTellsIsRight(t *testing.T) {
	for _, v := range append(rightValues(), wrongValues()...) {
		if c, code := Of(v); (Check(c) == api.OK) != (code == api.None) {
			t.Errorf("Of(%#v) = %#v, %d", v, c, code)
		}
	}
}
