package dates

import (
	"math/rand"
	"testing"

	"foolscap/api"
)

// P11.4: the chapter's example, and some by hand; an empty text is one beyond an end.
func TestMonthsExamples(t *testing.T) {
	for _, c := range []struct {
		from   string
		months int
		to     string
	}{
		{"2024-01-31", 1, "2024-02-29"}, {"2023-01-31", 1, "2023-02-28"}, {"2023-01-30", 1, "2023-02-28"}, {"2023-01-29", 1, "2023-02-28"}, {"2023-01-28", 1, "2023-02-28"}, {"2024-01-29", 1, "2024-02-29"}, {"2024-01-28", 1, "2024-02-28"}, {"2024-03-31", 1, "2024-04-30"}, {"2024-05-31", 4, "2024-09-30"}, {"2024-03-31", -1, "2024-02-29"}, {"2023-03-31", -1, "2023-02-28"}, {"2100-03-29", -1, "2100-02-28"}, {"2000-03-29", -1, "2000-02-29"}, {"2400-01-31", 1, "2400-02-29"}, {"1900-01-31", 1, "1900-02-28"},
		{"2024-03-31", 0, "2024-03-31"}, {"1900-01-01", 0, "1900-01-01"}, {"9999-12-31", 0, "9999-12-31"}, {"2024-02-29", 12, "2025-02-28"}, {"2024-02-29", -12, "2023-02-28"}, {"2024-02-29", 48, "2028-02-29"}, {"2000-02-29", 1200, "2100-02-28"}, {"2000-02-29", 4800, "2400-02-29"}, {"2023-02-28", 12, "2024-02-28"}, {"2023-02-28", 1, "2023-03-28"},
		{"2000-12-15", 1, "2001-01-15"}, {"2001-01-15", -1, "2000-12-15"}, {"2000-12-31", 2, "2001-02-28"}, {"2001-01-31", -2, "2000-11-30"}, {"2000-01-31", -11, "1999-02-28"}, {"2000-01-31", -12, "1999-01-31"}, {"2000-01-31", -13, "1998-12-31"},
		{"1900-02-28", -1, "1900-01-28"}, {"1900-01-01", -1, ""}, {"1900-01-31", -1, ""}, {"1900-02-28", -2, ""}, {"1900-12-31", -11, "1900-01-31"}, {"1900-12-31", -12, ""}, {"9999-11-30", 1, "9999-12-30"}, {"9999-12-01", 1, ""}, {"9999-12-31", 1, ""}, {"9999-11-30", 2, ""}, {"9999-01-31", 11, "9999-12-31"}, {"9999-01-31", 12, ""},
		{"1900-01-31", 97199, "9999-12-31"}, {"1900-01-31", 97200, ""}, {"9999-12-31", -97199, "1900-01-31"}, {"9999-12-31", -97200, ""}, {"1900-01-01", 120000, ""}, {"9999-12-31", -120000, ""}, {"9999-12-31", 120000, ""}, {"1900-01-01", -120000, ""},
	} {
		from, _ := Parse(c.from)
		want := wrong(api.ErrOver)
		if c.to != "" {
			n, _ := Parse(c.to)
			want = right(n)
		}
		if got := asInt(Months(from, c.months)); got != want {
			t.Errorf("Months of %s by %d = %v, want %s, %v", c.from, c.months, got, c.to, want)
		}
	}
}

// asksMonths holds one answer of Months against the calendar's, and tells it.
func asksMonths(t *testing.T, c calendar, serial, months int) intResult {
	t.Helper()
	got := asInt(Months(serial, months))
	if want := c.months(serial, months); got != want {
		t.Errorf("Months(%d, %d) = %v, want %v", serial, months, got, want)
	}
	return got
}

// P11.4: all steps that may be handed in, and one beyond, from days of all kinds.
func TestMonthsOfAllSteps(t *testing.T) {
	c := calendarOf()
	for _, s := range []string{"1900-01-01", "1900-01-31", "1900-02-28", "2000-02-29", "2024-08-31", "2100-11-30", "5950-05-30", "9999-11-30", "9999-12-31"} {
		from, _ := Parse(s)
		for months := -120001; months <= 120001; months++ {
			asksMonths(t, c, from, months)
		}
	}
}

// P11.4: each day of some years, by small steps and by some that reach either end.
func TestMonthsOfAllDaysOfYears(t *testing.T) {
	c := calendarOf()
	for _, year := range []int{1900, 1901, 1904, 1999, 2000, 2023, 2024, 2100, 2400, 9996, 9998, 9999} {
		for serial := c.first(monthNumber(year, 1)); serial < c.first(monthNumber(year+1, 1)); serial++ {
			for months := -26; months <= 26; months++ {
				asksMonths(t, c, serial, months)
			}
			for _, end := range []int{0, monthNumber(9999, 12)} {
				for _, months := range besides(end - c.monthOf(serial)) {
					asksMonths(t, c, serial, months)
				}
			}
		}
	}
}

// P11.4
func TestMonthsOfWrongDaysAndSteps(t *testing.T) {
	steps := append(farOut(), -120001, -120002, 120001, 120002)
	check := func(serial, months int) {
		t.Helper()
		if got := asInt(Months(serial, months)); got != wrong(api.ErrArg) {
			t.Errorf("Months(%d, %d) = %v, want ErrArg", serial, months, got)
		}
	}
	for _, serial := range wrongDays() {
		for _, months := range append([]int{0, 1, -1, 12, -120000, 120000}, steps...) {
			check(serial, months)
		}
	}
	for _, serial := range []int{1, 2, 36525, lastDay - 1, lastDay} {
		for _, months := range steps {
			check(serial, months)
		}
	}
}

// P11.8: there and back again is the same month, and the day's number is kept, where the month between has so many days, and is not greater, where it has not.
func TestMonthsThereAndBack(t *testing.T) {
	c, r := calendarOf(), rand.New(rand.NewSource(2))
	kept, cut := 0, 0
	check := func(serial, months int) {
		t.Helper()
		there, e := Months(serial, months)
		if e != api.OK {
			return
		}
		back := asParts(0, 0, 0, api.OK)
		if n, e := Months(there, -months); e == api.OK {
			back = asParts(Parts(n))
		}
		from, between := c.parts(serial), c.parts(there)
		if monthNumber(between.year, between.month) != c.monthOf(serial)+months {
			t.Errorf("%v by %d leads to %v", from, months, between)
		}
		want := from
		want.day = min(from.day, wantLength(between.year, between.month))
		if between.day != want.day || back != want {
			t.Errorf("%v by %d is %v, and back %v, want %v", from, months, between, back, want)
		}
		if want == from {
			kept++
		} else {
			cut++
		}
	}
	for range 300000 {
		check(1+r.Intn(lastDay), r.Intn(60001)-30000)
	}
	for month := range monthNumber(9999, 12) {
		for day := c.first(month+1) - 4; day < c.first(month+1); day++ {
			check(day, r.Intn(30)-15)
		}
	}
	if kept < 100000 || cut < 20000 {
		t.Errorf("%d were kept, %d were cut", kept, cut)
	}
}
