package crit

import (
	"math/rand"
	"strings"
	"testing"

	"foolscap/api"
)

// P13.6
func TestEachValueFitsASignOrItsContrary(t *testing.T) {
	all := rightValues()
	for _, asked := range all {
		for _, v := range all {
			if Fits(critOf("=", asked), v) == Fits(critOf("<>", asked), v) {
				t.Errorf("%#v beside %#v: = and <> are both %v", v, asked, Fits(critOf("=", asked), v))
			}
		}
	}
}

// P13.7
func TestATextWithoutSignsIsLikeItselfAlone(t *testing.T) {
	all := texts()
	for i := range 256 {
		all = append(all, string([]byte{byte(i)}), string([]byte{'x', byte(i)}))
	}
	for _, s := range all {
		if strings.ContainsAny(s, "?*~") {
			continue
		}
		for _, other := range all {
			want := wantFold(bytewise(s)) == wantFold(bytewise(other))
			if got := Like(s, other); got != want {
				t.Errorf("Like(%q, %q) = %v", s, other, got)
			}
		}
	}
}

// P13.7
func TestARowIsLikeAll(t *testing.T) {
	for _, s := range append(wordsOver("a?*~\xff\n", 4), append(texts(), longTexts()...)...) {
		if !Like("*", s) {
			t.Errorf("Like(*, %q) = false", s)
		}
	}
}

// openEnded tells whether a pattern ends with a ~ that stands for itself, which would take the first byte of what is put behind it.
func openEnded(pattern string) bool {
	return (len(pattern)-len(strings.TrimRight(pattern, "~")))%2 == 1
}

// P13.7: what two patterns stand for, put together, is what both stand for, put together; and nothing else is.
func TestPatternsPutTogether(t *testing.T) {
	some, words := wordsOver("a?*~", 2), wordsOver("ab~", 4)
	for _, front := range some {
		if openEnded(front) {
			continue
		}
		for _, end := range some {
			for _, s := range words {
				parted := false
				for i := range len(s) + 1 {
					parted = parted || Like(front, s[:i]) && Like(end, s[i:])
				}
				if got := Like(front+end, s); got != parted {
					t.Errorf("Like(%q and %q, %q) = %v", front, end, s, got)
				}
			}
		}
	}
}

// P13.7
func TestScatteredPatternsPutTogether(t *testing.T) {
	r, both := rand.New(rand.NewSource(5)), 0
	for range 40000 {
		a, b, s, u := scatteredText(r, 4), scatteredText(r, 4), scatteredText(r, 4), scatteredText(r, 4)
		if openEnded(a) || !Like(a, s) || !Like(b, u) {
			continue
		}
		both++
		if !Like(a+b, s+u) {
			t.Errorf("Like(%q and %q, %q and %q) = false", a, b, s, u)
		}
	}
	if both < 500 {
		t.Errorf("%d of the scattered texts are like their patterns", both)
	}
}

// P13.8
func TestTheSameValuesFitTheSameCriteria(t *testing.T) {
	asked := rightValues()
	for _, v := range rightValues() {
		if v.Kind != api.Text {
			continue
		}
		great, small := textOf(backward(wantFold(bytewise(v.S)))), textOf(smallened(v.S))
		for _, a := range asked {
			for _, sign := range allSigns() {
				c := critOf(sign, a)
				if want := Fits(c, v); Fits(c, great) != want || Fits(c, small) != want {
					t.Errorf("of %#v, %#v and %#v not all fit %#v", v, great, small, c)
				}
			}
		}
	}
}

// P13.8: nor does it matter whether letters of what is asked for are great.
func TestTheSameCriteriaFitTheSameValues(t *testing.T) {
	for _, a := range rightValues() {
		if a.Kind != api.Text {
			continue
		}
		great, small := textOf(backward(wantFold(bytewise(a.S)))), textOf(smallened(a.S))
		for _, v := range rightValues() {
			for _, sign := range allSigns() {
				want := Fits(critOf(sign, a), v)
				if Fits(critOf(sign, great), v) != want || Fits(critOf(sign, small), v) != want {
					t.Errorf("%#v does not fit all of %s %#v, %#v and %#v", v, sign, a, great, small)
				}
			}
		}
	}
}

// smallened tells a text whose letters A to Z are a to z.
func smallened(s string) string {
	bytes := []byte(s)
	for i, b := range bytes {
		if 'A' <= b && b <= 'Z' {
			bytes[i] = b + 32
		}
	}
	return string(bytes)
}
