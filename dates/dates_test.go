package dates

import (
	"math"
	"math/rand"
	"testing"

	"foolscap/api"
)

// P11.1
func TestLeap(t *testing.T) {
	for year, want := range map[int]bool{
		1900: false, 1901: false, 1904: true, 1996: true, 1999: false, 2000: true, 2023: false, 2024: true, 2100: false, 2400: true, 9996: true, 9999: false,
		0: true, 1: false, 3: false, 4: true, 100: false, 400: true, -1: false, -3: false, -4: true, -96: true, -100: false, -104: true, -200: false, -300: false, -400: true, -401: false, -404: true, -500: false, -800: true,
		math.MinInt: true, math.MinInt + 1: false, math.MinInt + 2: false, math.MinInt + 3: false, math.MaxInt: false, math.MaxInt - 1: false, math.MaxInt - 3: true,
	} {
		if got := Leap(year); got != want {
			t.Errorf("Leap(%d) = %v", year, got)
		}
	}
	for year := -20000; year <= 20000; year++ {
		if Leap(year) != wantLeap(year) {
			t.Errorf("Leap(%d) = %v", year, Leap(year))
		}
	}
	for i := range 2000 {
		for _, year := range []int{math.MinInt + i, math.MaxInt - i} {
			if Leap(year) != wantLeap(year) {
				t.Errorf("Leap(%d) = %v", year, Leap(year))
			}
		}
	}
}

// P11.2: the chapter's examples, and some by hand.
func TestSerialExamples(t *testing.T) {
	for _, c := range []struct {
		year, month, day int
		want             intResult
	}{
		{1900, 1, 1, right(1)}, {1900, 1, 2, right(2)}, {1900, 1, 31, right(31)}, {1900, 2, 1, right(32)}, {1900, 2, 28, right(59)}, {1900, 2, 29, right(60)}, {1900, 3, 1, right(60)}, {1900, 12, 31, right(365)}, {1901, 1, 1, right(366)}, {1904, 2, 29, right(1520)},
		{2000, 1, 1, right(36525)}, {2000, 2, 30, right(36525 + 60)}, {2000, 3, 1, right(36525 + 60)}, {1999, 13, 0, right(36524)}, {1999, 12, 31, right(36524)}, {1999, 13, 1, right(36525)}, {2001, -11, 1, right(36525)}, {2000, 0, 1, right(36525 - 31)}, {2000, 1, 0, right(36524)}, {2000, 1, -1, right(36523)}, {2000, -1, 1, right(36525 - 61)},
		{9999, 12, 31, right(lastDay)}, {9999, 12, 30, right(lastDay - 1)}, {9999, 12, 32, wrong(api.ErrOver)}, {9999, 13, 1, wrong(api.ErrOver)}, {9999, 13, 0, right(lastDay)}, {9999, 14, -31, right(lastDay)}, {9999, 14, -30, wrong(api.ErrOver)}, {9999, 1, 365, right(lastDay)}, {9999, 1, 366, wrong(api.ErrOver)},
		{1900, 1, 0, wrong(api.ErrOver)}, {1900, 0, 1, wrong(api.ErrOver)}, {1900, 0, 31, wrong(api.ErrOver)}, {1900, 0, 32, right(1)}, {1900, -11, 365, wrong(api.ErrOver)}, {1900, -11, 366, right(1)}, {1901, -11, 1, right(1)}, {1901, -11, 0, wrong(api.ErrOver)}, {1900, 2, -30, right(1)}, {1900, 2, -31, wrong(api.ErrOver)},
		{2000, 1, -100000, wrong(api.ErrOver)}, {1900, 1, 100000, right(100000)}, {9999, 12, -100000, right(lastDay - 100031)}, {1900, -100000, 1, wrong(api.ErrOver)}, {9999, 100000, 1, wrong(api.ErrOver)}, {1900, 97200, 31, right(lastDay)}, {1900, 97200, 32, wrong(api.ErrOver)}, {9999, -97187, 1, right(1)}, {9999, -97187, 0, wrong(api.ErrOver)},
	} {
		if got := asInt(Serial(c.year, c.month, c.day)); got != c.want {
			t.Errorf("Serial(%d, %d, %d) = %v, want %v", c.year, c.month, c.day, got, c.want)
		}
	}
}

// asksSerial holds one answer of Serial against the calendar's, and tells it.
func asksSerial(t *testing.T, c calendar, year, month, day int) intResult {
	t.Helper()
	got := asInt(Serial(year, month, day))
	if want := c.serial(year, month, day); got != want {
		t.Errorf("Serial(%d, %d, %d) = %v, want %v", year, month, day, got, want)
	}
	return got
}

// P11.2: all months, and all days, that may be handed in.
func TestSerialOfAllMonthsAndDays(t *testing.T) {
	c := calendarOf()
	for _, year := range []int{1900, 1901, 1904, 2000, 2100, 2400, 5950, 9996, 9998, 9999} {
		for n := -100001; n <= 100001; n++ {
			asksSerial(t, c, year, n, 1)
			asksSerial(t, c, year, n, -9999)
			asksSerial(t, c, year, 1, n)
			asksSerial(t, c, year, -30, n)
		}
	}
}

// P11.2: whatever month it begins at, the days that lead to the first day and to the last one, and those beside them.
func TestSerialToBothEnds(t *testing.T) {
	c := calendarOf()
	there, beyond := 0, 0
	for month := -100000; month <= 100000; month++ {
		for _, year := range []int{1900, 1950, 9950, 9999} {
			for _, end := range []int{1, lastDay} {
				day := end - c.first(monthNumber(year, month)) + 1
				if outside(day, -100002, 100002) {
					continue
				}
				for _, d := range besides(day) {
					switch asksSerial(t, c, year, month, d).e {
					case api.OK:
						there++
					case api.ErrOver:
						beyond++
					}
				}
			}
		}
	}
	if there < 50000 || beyond < 20000 {
		t.Errorf("%d led to a day, %d beyond both ends", there, beyond)
	}
}

// P11.2
func TestSerialOfScatteredParts(t *testing.T) {
	c, r := calendarOf(), rand.New(rand.NewSource(1))
	seen := map[api.Errno]int{}
	for range 300000 {
		seen[asksSerial(t, c, 1899+r.Intn(8102), r.Intn(200005)-100002, r.Intn(200005)-100002).e]++
		seen[asksSerial(t, c, 1899+r.Intn(8102), r.Intn(40)-20, r.Intn(800)-400).e]++
	}
	if seen[api.OK] < 100000 || seen[api.ErrOver] < 50000 || seen[api.ErrArg] < 50 {
		t.Errorf("seen: %v", seen)
	}
}

// P11.2: one beyond each bound, and far beyond; ErrArg goes ahead of ErrOver.
func TestSerialOfWrongParts(t *testing.T) {
	years := append(farOut(), 1899, 1898, 10000, 10001, 0, -1, -1900, 1)
	others := append(farOut(), -100001, -100002, 100001, 100002)
	check := func(year, month, day int) {
		t.Helper()
		if got := asInt(Serial(year, month, day)); got != wrong(api.ErrArg) {
			t.Errorf("Serial(%d, %d, %d) = %v, want ErrArg", year, month, day, got)
		}
	}
	for _, year := range years {
		for _, n := range []int{1, 12, 0, -100000, 100000} {
			check(year, n, 1)
			check(year, 1, n)
		}
		for _, n := range others {
			check(year, n, n)
		}
	}
	for _, n := range others {
		for _, year := range []int{1900, 2000, 9999} {
			for _, m := range []int{1, 0, -100000, 100000} {
				check(year, n, m)
				check(year, m, n)
			}
			check(year, n, n)
		}
	}
	// Though the parts, taken together, would be a day.
	check(1899, 13, 1)
	check(1899, 1, 366)
	check(10000, 0, 1)
	check(10000, 1, 0)
	for _, got := range []intResult{asInt(Serial(5950, 100000, 1)), asInt(Serial(5950, -100000, 1))} {
		if got != wrong(api.ErrOver) {
			t.Errorf("at the bounds: %v", got)
		}
	}
}

// P11.3
func TestParts(t *testing.T) {
	for serial, want := range map[int]partsResult{
		1: {1900, 1, 1, api.OK}, 2: {1900, 1, 2, api.OK}, 31: {1900, 1, 31, api.OK}, 32: {1900, 2, 1, api.OK}, 59: {1900, 2, 28, api.OK}, 60: {1900, 3, 1, api.OK}, 365: {1900, 12, 31, api.OK}, 366: {1901, 1, 1, api.OK}, 1520: {1904, 2, 29, api.OK}, 1521: {1904, 3, 1, api.OK},
		36524: {1999, 12, 31, api.OK}, 36525: {2000, 1, 1, api.OK}, 36584: {2000, 2, 29, api.OK}, 36585: {2000, 3, 1, api.OK}, lastDay - 1: {9999, 12, 30, api.OK}, lastDay: {9999, 12, 31, api.OK}, lastDay - 365: {9998, 12, 31, api.OK}, lastDay - 364: {9999, 1, 1, api.OK},
	} {
		if got := asParts(Parts(serial)); got != want {
			t.Errorf("Parts(%d) = %v, want %v", serial, got, want)
		}
	}
	for _, serial := range wrongDays() {
		if got := asParts(Parts(serial)); got != (partsResult{e: api.ErrArg}) {
			t.Errorf("Parts(%d) = %v, want ErrArg", serial, got)
		}
	}
}

// P11.3: the day 1 was a Monday; days of which it is known.
func TestWeekday(t *testing.T) {
	for serial, want := range map[int]int{1: 2, 2: 3, 3: 4, 4: 5, 5: 6, 6: 7, 7: 1, 8: 2, 36525: 7, 36526: 1, lastDay - 1: 5, lastDay: 6} {
		if got := asInt(Weekday(serial)); got != right(want) {
			t.Errorf("Weekday(%d) = %v, want %d", serial, got, want)
		}
	}
	for s, want := range map[string]int{"1969-07-20": 1, "1945-05-08": 3, "2026-11-18": 4, "2024-02-29": 5, "1900-03-01": 5, "1989-11-09": 5, "2100-03-01": 2} {
		serial, _ := Parse(s)
		if got := asInt(Weekday(serial)); got != right(want) {
			t.Errorf("Weekday of %s = %v, want %d", s, got, want)
		}
	}
	for _, serial := range wrongDays() {
		if got := asInt(Weekday(serial)); got != wrong(api.ErrArg) {
			t.Errorf("Weekday(%d) = %v, want ErrArg", serial, got)
		}
	}
}
