package dates

import (
	"testing"
	"time"

	"foolscap/api"
)

// P11.3, P11.5, P11.6, P11.7: all days, one by one, each with its parts, its weekday and its text, there and back.
func TestOneByOne(t *testing.T) {
	want, weekday := partsResult{year: 1900, month: 1, day: 1}, 2
	for serial := 1; serial <= lastDay; serial++ {
		if got := asParts(Parts(serial)); got != want {
			t.Fatalf("Parts(%d) = %v, want %v", serial, got, want)
		}
		if got := asInt(Serial(want.year, want.month, want.day)); got != right(serial) {
			t.Fatalf("Serial of %v = %v, want %d", want, got, serial)
		}
		if got := asInt(Weekday(serial)); got != right(weekday) {
			t.Fatalf("Weekday(%d) = %v, want %d", serial, got, weekday)
		}
		s, e := Print(serial)
		if e != api.OK || !isWritten(s, want) {
			t.Fatalf("Print(%d) = %q, %d, want %v", serial, s, e, want)
		}
		if got := asInt(Parse(s)); got != right(serial) {
			t.Fatalf("Parse(%q) = %v, want %d", s, got, serial)
		}
		want, weekday = next(want), weekday%7+1
	}
	if want != (partsResult{year: 10000, month: 1, day: 1}) {
		t.Errorf("behind the last day %v stands", want)
	}
}

// next is the day behind a day.
func next(p partsResult) partsResult {
	switch {
	case p.day < wantLength(p.year, p.month):
		p.day++
	case p.month < 12:
		p.month, p.day = p.month+1, 1
	default:
		p.year, p.month, p.day = p.year+1, 1, 1
	}
	return p
}

// isWritten tells whether a text is a day's digits, held one by one against its parts.
func isWritten(s string, p partsResult) bool {
	digits := []int{p.year / 1000, p.year / 100 % 10, p.year / 10 % 10, p.year % 10, -1, p.month / 10, p.month % 10, -1, p.day / 10, p.day % 10}
	if len(s) != len(digits) {
		return false
	}
	for i, d := range digits {
		if d < 0 && s[i] != '-' || d >= 0 && int(s[i]) != '0'+d {
			return false
		}
	}
	return true
}

// P11.3, P11.7: the last day of each month and the first of the next, of leap years and of others.
func TestMonthsEnds(t *testing.T) {
	for year, length := range map[int]int{1900: 28, 1904: 29, 2000: 29, 2023: 28, 2024: 29, 2100: 28, 2400: 29, 9999: 28} {
		for month, last := range []int{31, length, 31, 30, 31, 30, 31, 31, 30, 31, 30, 31} {
			serial, e := Serial(year, month+1, last)
			if got := asParts(Parts(serial)); e != api.OK || got != (partsResult{year: year, month: month + 1, day: last}) {
				t.Errorf("%d-%d-%d is %d, %d, and that is %v", year, month+1, last, serial, e, got)
			}
			if serial == lastDay {
				continue
			}
			want := partsResult{year: year, month: month + 2, day: 1}
			if month == 11 {
				want = partsResult{year: year + 1, month: 1, day: 1}
			}
			if got := asParts(Parts(serial + 1)); got != want {
				t.Errorf("behind %d-%d-%d stands %v, want %v", year, month+1, last, got, want)
			}
			if got := asInt(Serial(year, month+2, 1)); got != right(serial+1) {
				t.Errorf("Serial(%d, %d, 1) = %v, want %d", year, month+2, got, serial+1)
			}
		}
	}
}

// P11.2, P11.3: the calendar is the one that the library has, too.
func TestAsTheLibraryHasIt(t *testing.T) {
	day := time.Date(1900, 1, 1, 0, 0, 0, 0, time.UTC)
	for serial := 1; serial <= lastDay; serial++ {
		year, month, number := day.Date()
		if got := asParts(Parts(serial)); got != (partsResult{year: year, month: int(month), day: number}) {
			t.Fatalf("Parts(%d) = %v, want %v", serial, got, day)
		}
		if got := asInt(Weekday(serial)); got != right(int(day.Weekday())+1) {
			t.Fatalf("Weekday(%d) = %v, want %v", serial, got, day.Weekday())
		}
		day = day.AddDate(0, 0, 1)
	}
	for _, year := range []int{1900, 2000, 2100, 9999} {
		for month := -100000; month <= 100000; month += 7 {
			for _, number := range []int{-100000, -366, 0, 1, 31, 400, 100000} {
				there := time.Date(year, time.Month(month), number, 0, 0, 0, 0, time.UTC)
				want := partsResult{year: there.Year(), month: int(there.Month()), day: there.Day()}
				serial, e := Serial(year, month, number)
				if outside(want.year, 1900, 9999) {
					if serial != 0 || e != api.ErrOver {
						t.Errorf("Serial(%d, %d, %d) = %d, %d, want ErrOver: %v", year, month, number, serial, e, there)
					}
				} else if got := asParts(Parts(serial)); e != api.OK || got != want {
					t.Errorf("Serial(%d, %d, %d) = %d, %d, that is %v, want %v", year, month, number, serial, e, got, want)
				}
			}
		}
	}
}
