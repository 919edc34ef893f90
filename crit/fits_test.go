package crit

import (
	"math/rand"
	"strings"
	"testing"

	"foolscap/api"
)

// asksFits holds Fits against what is wanted and against the second telling.
func asksFits(t *testing.T, c api.Crit, v api.Value, want bool) {
	t.Helper()
	got := Fits(c, v)
	if got != want {
		t.Errorf("Fits(%#v, %#v) = %v", c, v, got)
	}
	if got != wantFits(c, v) {
		t.Errorf("Fits(%#v, %#v) = %v, by the second telling %v", c, v, got, !got)
	}
}

// asksSigns holds Fits with each sign against a list of those that a value fits.
func asksSigns(t *testing.T, asked, v api.Value, fitting string) {
	t.Helper()
	for _, sign := range allSigns() {
		asksFits(t, critOf(sign, asked), v, strings.Contains(" "+fitting+" ", " "+sign+" "))
	}
}

// What a value fits that is below, like or above what is asked for, or of another kind.
const (
	isBelow = "<> < <="
	isLike  = "= <= >="
	isAbove = "<> > >="
	isOther = "<>"
)

// standing tells what a number fits beside one that is asked for.
func standing(n, asked int) string {
	switch {
	case n < asked:
		return isBelow
	case n > asked:
		return isAbove
	}
	return isLike
}

// P13.3: the chapter's examples.
func TestFitsOfTheChapter(t *testing.T) {
	for _, c := range []struct {
		asked api.Value
		v     api.Value
		want  bool
	}{
		{textOf(">=5"), numberOf(5 * unit), true}, {textOf(">=5"), numberOf(7 * unit), true}, {textOf(">=5"), numberOf(5*unit - 1), false}, {textOf(">=5"), textOf("7"), false}, {textOf(">=5"), textOf("x"), false},
		{textOf("a*"), textOf("Abc"), true}, {textOf("a*"), textOf("bac"), false}, {textOf("a~*"), textOf("a*"), true}, {textOf("a~*"), textOf("A*"), true}, {textOf("a~*"), textOf("abc"), false}, {textOf("a~*"), textOf("a~*"), false},
		{textOf("<>x"), textOf("x"), false}, {textOf("<>x"), textOf("X"), false}, {textOf("<>x"), textOf("y"), true}, {textOf("<>x"), blank, true}, {textOf("<>x"), numberOf(5), true}, {textOf("<>x"), truthOf(true), true}, {textOf("<>x"), faultOf(api.NA), true},
		{numberOf(5 * unit), numberOf(5 * unit), true}, {numberOf(5 * unit), numberOf(5*unit + 1), false}, {numberOf(5 * unit), textOf("5"), false},
	} {
		asked, code := Of(c.asked)
		if code != api.None {
			t.Errorf("Of(%#v): %d", c.asked, code)
		}
		asksFits(t, asked, c.v, c.want)
	}
}

// P13.3
func TestFitsNumbers(t *testing.T) {
	for _, n := range numbers() {
		asksSigns(t, numberOf(n), numberOf(n), isLike)
		if n > -most {
			asksSigns(t, numberOf(n), numberOf(n-1), isBelow)
		}
		if n < most {
			asksSigns(t, numberOf(n), numberOf(n+1), isAbove)
		}
		for _, m := range numbers() {
			asksSigns(t, numberOf(n), numberOf(m), standing(m, n))
		}
	}
	for _, v := range []api.Value{blank, textOf(""), textOf("0"), textOf("5"), textOf("5.0"), textOf("1"), textOf("x"), truthOf(false), truthOf(true), faultOf(api.Div), faultOf(api.Range)} {
		for _, n := range []int{0, 1, unit, 5 * unit, -most, most} {
			asksSigns(t, numberOf(n), v, isOther)
		}
	}
}

// P13.3
func TestFitsTruths(t *testing.T) {
	asksSigns(t, truthOf(false), truthOf(false), isLike)
	asksSigns(t, truthOf(false), truthOf(true), isAbove)
	asksSigns(t, truthOf(true), truthOf(false), isBelow)
	asksSigns(t, truthOf(true), truthOf(true), isLike)
	for _, v := range []api.Value{blank, numberOf(0), numberOf(1), numberOf(unit), textOf(""), textOf("TRUE"), textOf("FALSE"), faultOf(api.Div)} {
		asksSigns(t, truthOf(false), v, isOther)
		asksSigns(t, truthOf(true), v, isOther)
	}
}

// P13.3: texts that are not wild; of ~ there is more below.
func TestFitsTexts(t *testing.T) {
	for _, c := range []struct{ asked, s, fitting string }{
		{"b", "b", isLike}, {"b", "B", isLike}, {"B", "b", isLike}, {"aBc", "AbC", isLike}, {"", "", isLike}, {" ", " ", isLike}, {"5", "5", isLike}, {"TRUE", "true", isLike}, {"#N/A", "#n/a", isLike}, {"\xff", "\xff", isLike}, {"é", "é", isLike}, {"a.c", "A.C", isLike},
		{"b", "a", isBelow}, {"b", "A", isBelow}, {"B", "a", isBelow}, {"b", "", isBelow}, {"b", "az", isBelow}, {"ab", "a", isBelow}, {"ab", "A", isBelow}, {"5.0", "5", isBelow}, {"05", "0", isBelow}, {"\xff", "z", isBelow}, {"_", "a", isBelow}, {"é", "É", isBelow}, {" x", " ", isBelow},
		{"b", "c", isAbove}, {"b", "C", isAbove}, {"B", "c", isAbove}, {"b", "bb", isAbove}, {"b", "B ", isAbove}, {"", "a", isAbove}, {"", "\x00", isAbove}, {"a", "_", isAbove}, {"5", "5.0", isAbove}, {"5", "50", isAbove}, {"50", "7", isAbove}, {"z", "\x80", isAbove}, {"É", "é", isAbove}, {"a.c", "abc", isAbove},
	} {
		asksSigns(t, textOf(c.asked), textOf(c.s), c.fitting)
	}
	for _, asked := range []string{"", "5", "b", "TRUE", "#N/A", "*", "?", "a*", "~", "~*"} {
		for _, v := range []api.Value{blank, numberOf(0), numberOf(5 * unit), numberOf(-most), truthOf(false), truthOf(true), faultOf(api.NA), faultOf(api.Cycle)} {
			asksSigns(t, textOf(asked), v, isOther)
		}
	}
}

// P13.3: = and <> go by what a pattern stands for, the other signs by its own bytes.
func TestFitsWildTextsAndSuchWithATilde(t *testing.T) {
	for _, c := range []struct{ asked, s, fitting string }{
		{"a*", "a*", isLike}, {"a*", "abc", "= > >="}, {"a*", "A", "= < <="}, {"a*", "b", isAbove}, {"a*", "", isBelow}, {"a*", "a)", "= < <="}, {"a*", "a+", "= > >="},
		{"*", "", "= < <="}, {"*", "*", isLike}, {"*", "x", "= > >="}, {"?", "x", "= > >="}, {"?", "?", isLike}, {"?", "7", "= < <="}, {"?", "", isBelow}, {"?", "xx", isAbove},
		{"a~*", "a*", "= < <="}, {"a~*", "A*", "= < <="}, {"a~*", "a~*", "<> <= >="}, {"a~*", "ab", isBelow}, {"a~*", "a\x7f", isAbove}, {"~?", "?", "= < <="}, {"~?", "~?", "<> <= >="}, {"~~", "~", "= < <="}, {"~~", "~~", "<> <= >="}, {"~x", "x", "= < <="}, {"~x", "X", "= < <="}, {"~X", "x", "= < <="}, {"~x", "~x", "<> <= >="}, {"~x", "~X", "<> <= >="},
		{"a~", "a~", isLike}, {"a~", "A~", isLike}, {"a~", "a", isBelow}, {"~", "~", isLike}, {"~", "", isBelow}, {"~~~", "~~", "= < <="}, {"~~~", "~~~", "<> <= >="}, {"~*~", "*~", "= < <="}, {"*~", "x~", "= > >="}, {"*~", "x", isAbove}, {"~**", "*x", "= < <="}, {"~**", "x", isBelow},
	} {
		asksSigns(t, textOf(c.asked), textOf(c.s), c.fitting)
	}
}

// P13.3
func TestFitsFaultsAndBlanks(t *testing.T) {
	for code := api.Div; code <= api.Cycle; code++ {
		for with := api.Div; with <= api.Cycle; with++ {
			if code == with {
				asksSigns(t, faultOf(code), faultOf(with), "=")
			} else {
				asksSigns(t, faultOf(code), faultOf(with), isOther)
			}
		}
		for _, v := range []api.Value{blank, numberOf(0), numberOf(int(code)), textOf("#N/A"), textOf(""), truthOf(true), truthOf(false)} {
			asksSigns(t, faultOf(code), v, isOther)
		}
		asksSigns(t, blank, faultOf(code), isOther)
	}
	asksSigns(t, blank, blank, "=")
	for _, v := range []api.Value{numberOf(0), numberOf(1), numberOf(-1), textOf(""), textOf(" "), textOf("x"), truthOf(false), truthOf(true)} {
		asksSigns(t, blank, v, isOther)
	}
}

// P13.3
func TestNothingFitsWhatIsNotRight(t *testing.T) {
	for _, wrong := range wrongValues() {
		for _, v := range []api.Value{blank, numberOf(0), numberOf(5), textOf(""), textOf("a"), textOf("*"), truthOf(false), truthOf(true), faultOf(api.Div), wrong} {
			asksSigns(t, wrong, v, "")
			asksSigns(t, v, wrong, "")
		}
	}
	for _, sign := range wrongSigns() {
		for _, v := range []api.Value{blank, numberOf(0), numberOf(5), textOf(""), textOf("a"), truthOf(true), faultOf(api.Div)} {
			for _, with := range []api.Value{blank, numberOf(0), numberOf(5), textOf("a"), textOf("b"), truthOf(true), faultOf(api.Div)} {
				asksFits(t, critOf(sign, v), with, false)
			}
		}
	}
}

// P13.3: each sign beside each kind, on both sides.
func TestFitsAsTheSecondTellingHasIt(t *testing.T) {
	all := rightValues()
	for _, asked := range all {
		for _, v := range all {
			for _, sign := range allSigns() {
				if got, want := Fits(critOf(sign, asked), v), wantFits(critOf(sign, asked), v); got != want {
					t.Errorf("Fits(%s %#v, %#v) = %v", sign, asked, v, got)
				}
			}
		}
	}
	r := rand.New(rand.NewSource(2))
	for range 20000 {
		c, v := critOf(allSigns()[r.Intn(6)], textOf(scatteredText(r, 6))), textOf(scatteredText(r, 6))
		if got := Fits(c, v); got != wantFits(c, v) {
			t.Errorf("Fits(%#v, %#v) = %v", c, v, got)
		}
	}
}
