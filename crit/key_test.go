package crit

import (
	"math/rand"
	"testing"

	"foolscap/api"
)

// asksNoKey holds Key against a criterion that has none.
func asksNoKey(t *testing.T, c api.Crit) {
	t.Helper()
	if key, ok := Key(c); key != "" || ok {
		t.Errorf("Key(%#v) = %q, %v", c, key, ok)
	}
}

// keyOf tells the key of = and a value, which must have one.
func keyOf(t *testing.T, v api.Value) string {
	t.Helper()
	key, ok := Key(critOf("=", v))
	if !ok {
		t.Errorf("Key(= %#v) is none", v)
	}
	return key
}

// P13.5
func TestKeysThatAreOne(t *testing.T) {
	for _, c := range []struct{ a, b string }{
		{"", ""}, {"a", "a"}, {"a", "A"}, {"aBc", "AbC"}, {"a", "~a"}, {"A", "~a"}, {"~A", "a"}, {"ab", "~a~b"}, {"a b", "a~ b"}, {"7", "~7"}, {"TRUE", "true"}, {"TRUE", "~TRUE"}, {"\xff", "~\xff"}, {"é", "~\xc3~\xa9"},
		{"a~*", "A~*"}, {"~?", "~?"}, {"~", "~"}, {"~", "~~"}, {"a~", "a~~"}, {"a~", "A~~"}, {"~~~", "~~~~"}, {"~a~", "a~~"}, {"~*~", "~*~~"}, {"~~a", "~~~a"},
	} {
		if a, b := keyOf(t, textOf(c.a)), keyOf(t, textOf(c.b)); a != b {
			t.Errorf("the keys of %q and %q are %q and %q", c.a, c.b, a, b)
		}
	}
}

// P13.5
func TestKeysThatAreNotOne(t *testing.T) {
	for _, c := range []struct{ a, b api.Value }{
		{blank, textOf("")}, {blank, numberOf(0)}, {blank, truthOf(false)}, {textOf(""), numberOf(0)},
		{numberOf(0), truthOf(false)}, {numberOf(0), textOf("0")}, {numberOf(unit), truthOf(true)}, {numberOf(unit), textOf("1")}, {numberOf(5 * unit), textOf("5")}, {numberOf(5), textOf("5")}, {numberOf(5), numberOf(-5)}, {numberOf(5), numberOf(5 * unit)}, {numberOf(5 * unit), numberOf(5*unit + 1)}, {numberOf(most), numberOf(most - 1)}, {numberOf(10 * unit), textOf("10")}, {numberOf(1), numberOf(10)},
		{truthOf(false), truthOf(true)}, {truthOf(true), textOf("TRUE")}, {truthOf(false), textOf("false")},
		{faultOf(api.NA), textOf("#N/A")}, {faultOf(api.NA), faultOf(api.Div)}, {faultOf(api.Div), numberOf(1)}, {faultOf(api.Div), textOf("1")},
		{textOf("a"), textOf("b")}, {textOf("a"), textOf("a ")}, {textOf("a"), textOf("a~")}, {textOf("~"), textOf("~~~")}, {textOf("~*"), textOf("~?")}, {textOf("~*"), textOf("~~~*")}, {textOf("~a"), textOf("~~a")}, {textOf("é"), textOf("É")}, {textOf("\xe1"), textOf("\xc1")}, {textOf("1a"), textOf("2a")}, {textOf("5"), textOf("5.0")},
		// With the kind's number ahead these would be alike if the kind did not stand apart.
		{textOf("15"), numberOf(5 * unit)}, {numberOf(25 * unit), textOf("5")}, {textOf("3TRUE"), truthOf(true)}, {textOf("0"), blank}, {textOf("4#N/A"), faultOf(api.NA)}, {textOf("15"), numberOf(15 * unit)},
	} {
		if a, b := keyOf(t, c.a), keyOf(t, c.b); a == b {
			t.Errorf("the keys of %#v and %#v are both %q", c.a, c.b, a)
		}
	}
}

// P13.5
func TestNoKeys(t *testing.T) {
	for _, s := range []string{"?", "*", "a*", "*a", "a?b", "~~*", "~**", "*~", "~??"} {
		asksNoKey(t, critOf("=", textOf(s)))
	}
	for _, v := range rightValues() {
		for _, sign := range allSigns()[1:] {
			asksNoKey(t, critOf(sign, v))
		}
		for _, sign := range wrongSigns() {
			asksNoKey(t, critOf(sign, v))
		}
	}
	for _, v := range wrongValues() {
		for _, sign := range append(allSigns(), wrongSigns()...) {
			asksNoKey(t, critOf(sign, v))
		}
	}
	asksNoKey(t, api.Crit{})
}

// keyed tells values whose = has a key: all but texts that are wild by the second telling.
func keyed(all []api.Value) []api.Value {
	var out []api.Value
	for _, v := range all {
		if v.Kind != api.Text || !wantWild(v.S) {
			out = append(out, v)
		}
	}
	return out
}

// alone tells the one value that = of a value which is not wild asks for, a text in great letters.
func alone(v api.Value) api.Value {
	if v.Kind == api.Text {
		v.S = backward(wantFold(bytewise(unescaped(v.S))))
	}
	return v
}

// askedFor are values to ask for.
func askedFor() []api.Value {
	out := rightValues()
	for _, s := range wordsOver("aA~*?", 3) {
		out = append(out, textOf(s))
	}
	r := rand.New(rand.NewSource(4))
	for range 100 {
		out = append(out, textOf(scatteredText(r, 6)), numberOf(r.Intn(20)-10), numberOf((r.Intn(20)-10)*unit))
	}
	return out
}

// P13.5
func TestWhichCriteriaHaveKeys(t *testing.T) {
	for _, v := range askedFor() {
		if _, ok := Key(critOf("=", v)); ok == (v.Kind == api.Text && wantWild(v.S)) {
			t.Errorf("Key(= %#v): %v", v, ok)
		}
	}
}

// P13.5: keys stand one to one beside the values that are asked for.
func TestKeysAreOneJustIfOneValueIsAskedFor(t *testing.T) {
	byKey, byValue := map[string]api.Value{}, map[api.Value]string{}
	for _, v := range keyed(askedFor()) {
		key, one := keyOf(t, v), alone(v)
		if had, ok := byKey[key]; ok && had != one {
			t.Errorf("%q is the key of %#v and of %#v", key, had, one)
		}
		if had, ok := byValue[one]; ok && had != key {
			t.Errorf("%#v has the keys %q and %q", one, had, key)
		}
		byKey[key], byValue[one] = one, key
	}
	if len(byKey) < 200 {
		t.Errorf("%d keys", len(byKey))
	}
}

// fitting tells which of some values fit = of one, a byte for each.
func fitting(asked api.Value, all []api.Value) string {
	out := make([]byte, 0, len(all))
	for _, v := range all {
		if Fits(critOf("=", asked), v) {
			out = append(out, '1')
		} else {
			out = append(out, '0')
		}
	}
	return string(out)
}

// P13.5: keys stand one to one beside what fits.
func TestKeysAreOneJustIfTheSameValuesFit(t *testing.T) {
	some := keyed(askedFor())
	// What each asks for is among the values, so that two that ask for different ones are told apart.
	all := rightValues()
	for _, v := range some {
		if !Fits(critOf("=", v), alone(v)) {
			t.Errorf("%#v does not fit = %#v", alone(v), v)
		}
		all = append(all, alone(v))
	}
	byKey, byFitting := map[string]string{}, map[string]string{}
	for _, v := range some {
		key, fits := keyOf(t, v), fitting(v, all)
		if had, ok := byKey[key]; ok && had != fits {
			t.Errorf("%q is the key of %#v and of another one, which other values fit", key, v)
		}
		if had, ok := byFitting[fits]; ok && had != key {
			t.Errorf("the same values fit = %#v, whose key is %q, and one whose key is %q", v, key, had)
		}
		byKey[key], byFitting[fits] = fits, key
	}
}
