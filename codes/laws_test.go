package codes

import (
	"math/rand"
	"strings"
	"testing"

	"foolscap/api"
	"foolscap/dates"
	"foolscap/num"
)

// manyNumbers tells the numbers of the tests, and scattered ones.
func manyNumbers(seed int64) []int {
	out, r := numbers(), rand.New(rand.NewSource(seed))
	for range 100000 {
		out = append(out, scatteredNumber(r))
	}
	return out
}

// P12.3
func TestDigitsAreReadAsTheyWere(t *testing.T) {
	for _, n := range manyNumbers(3) {
		s, c := Apply("0.000000", numberOf(n))
		if got, e := num.Parse(s); c != api.None || e != api.OK || got != n {
			t.Errorf("0.000000 writes %d as %q, %d, which is read as %d, %d", n, s, c, got, e)
		}
		if whole, fraction, _ := strings.Cut(s, "."); whole == "" || len(fraction) != 6 {
			t.Errorf("0.000000 writes %d as %q", n, s)
		}
	}
}

// P12.4
func TestCommasAlonePartDigits(t *testing.T) {
	with := 0
	for _, n := range manyNumbers(4) {
		parted, c := Apply("#,##0", numberOf(n))
		plain, d := Apply("0", numberOf(n))
		if c != api.None || d != api.None || strings.ReplaceAll(parted, ",", "") != plain {
			t.Errorf("#,##0 writes %d as %q, %d, and 0 as %q, %d", n, parted, c, plain, d)
		}
		groups := strings.Split(strings.TrimPrefix(parted, "-"), ",")
		for i, g := range groups {
			if i > 0 && len(g) != 3 || len(g) < 1 || len(g) > 3 {
				t.Errorf("#,##0 writes %d as %q", n, parted)
			}
		}
		with += len(groups) - 1
	}
	if with < 10000 {
		t.Errorf("%d commas", with)
	}
}

// P12.5: all days, each with another fraction.
func TestDaysAreWrittenAsDatesWritesThem(t *testing.T) {
	for serial := 1; serial <= lastDay; serial++ {
		want, e := dates.Print(serial)
		if got := asText(Apply("yyyy-mm-dd", daysOf(serial, serial*7919%unit))); e != api.OK || got != right(want) {
			t.Fatalf("yyyy-mm-dd writes %d as %v, want %q, %d", serial, got, want, e)
		}
	}
	for _, serial := range []int{0, -1, -lastDay, lastDay + 1, 2 * lastDay} {
		if got := asText(Apply("yyyy-mm-dd", daysOf(serial, 0))); got != wrong(api.Wrong) {
			t.Errorf("yyyy-mm-dd writes %d as %v, want Wrong", serial, got)
		}
	}
}

// P12.6
func TestTextsGoThrough(t *testing.T) {
	for _, s := range texts() {
		for _, code := range append(plainCodes(), otherCodes()...) {
			all, _ := wantSections(code)
			own := false
			for _, section := range all {
				own = own || section.is("@")
			}
			if got := asText(Apply(code, textOf(s))); !own && got != right(s) {
				t.Errorf("%q writes the text %q as %v", code, s, got)
			}
		}
		for _, code := range []string{"@", "@;0", "0;@", "d;0;@", "\"\"@", "@\"\""} {
			if got := asText(Apply(code, textOf(s))); got != right(s) {
				t.Errorf("%q writes the text %q as %v", code, s, got)
			}
		}
	}
	for i := range 256 {
		s := string([]byte{byte(i)})
		for _, code := range []string{"@", "", "0", "d", "\"x\"", "0;0;0"} {
			if got := asText(Apply(code, textOf(s))); got != right(s) {
				t.Errorf("%q writes the text %q as %v", code, s, got)
			}
		}
	}
}
