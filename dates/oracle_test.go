package dates

import (
	"fmt"
	"math"
	"math/big"
	"regexp"
	"sort"

	"foolscap/api"
)

// The tests hold the package against a second telling of the chapter's words, which shares no code with it: a calendar in which all months stand one after the other, with their first days' numbers.

const lastDay = 2958464

type intResult struct {
	n int
	e api.Errno
}

type partsResult struct {
	year, month, day int
	e                api.Errno
}

type textResult struct {
	s string
	e api.Errno
}

func asInt(n int, e api.Errno) intResult                    { return intResult{n, e} }
func asParts(year, month, day int, e api.Errno) partsResult { return partsResult{year, month, day, e} }
func asText(s string, e api.Errno) textResult               { return textResult{s, e} }
func wrong(e api.Errno) intResult                           { return intResult{e: e} }
func right(n int) intResult                                 { return intResult{n: n} }
func outside(n, least, most int) bool                       { return n < least || n > most }
func monthNumber(year, month int) int                       { return 12*(year-1900) + month - 1 }
func written(year, month, day int) string                   { return fmt.Sprintf("%04d-%02d-%02d", year, month, day) }
func besides(n int) []int                                   { return []int{n - 1, n, n + 1} }
func farOut() []int {
	return []int{math.MinInt, math.MinInt + 1, math.MaxInt - 1, math.MaxInt, math.MinInt32, math.MaxInt32}
}
func wrongDays() []int { return append(farOut(), 0, -1, -2, -lastDay, lastDay+1, lastDay+2, 2*lastDay) }

// divides tells whether d divides a year, with numbers that have no bound.
func divides(d, year int) bool {
	return new(big.Int).Mod(big.NewInt(int64(year)), big.NewInt(int64(d))).Sign() == 0
}

func wantLeap(year int) bool {
	switch {
	case divides(400, year):
		return true
	case divides(100, year):
		return false
	}
	return divides(4, year)
}

func wantLength(year, month int) int {
	switch month {
	case 4, 6, 9, 11:
		return 30
	case 2:
		if wantLeap(year) {
			return 29
		}
		return 28
	}
	return 31
}

// calendar has the first days' numbers of months, in order; the month of the day 1 has the number 0, and stands at zero.
type calendar struct {
	firsts []int
	zero   int
}

// calendarOf walks from the day 1 so far to either side as months and days may be handed in, and some years further.
func calendarOf() calendar {
	var ahead []int
	first := 1
	for year := 1899; year >= 1900-9000; year-- {
		for month := 12; month >= 1; month-- {
			first -= wantLength(year, month)
			ahead = append(ahead, first)
		}
	}
	c := calendar{zero: len(ahead)}
	for i := range ahead {
		c.firsts = append(c.firsts, ahead[len(ahead)-1-i])
	}
	first = 1
	for year := 1900; year <= 9999+9000; year++ {
		for month := 1; month <= 12; month++ {
			c.firsts = append(c.firsts, first)
			first += wantLength(year, month)
		}
	}
	return c
}

// first is the number of a month's first day, by the month's number.
func (c calendar) first(month int) int { return c.firsts[c.zero+month] }

// monthOf is the number of a day's month.
func (c calendar) monthOf(serial int) int {
	return sort.SearchInts(c.firsts, serial+1) - 1 - c.zero
}

func (c calendar) serial(year, month, day int) intResult {
	if outside(year, 1900, 9999) || outside(month, -100000, 100000) || outside(day, -100000, 100000) {
		return wrong(api.ErrArg)
	}
	n := c.first(monthNumber(year, month)) + day - 1
	if outside(n, 1, lastDay) {
		return wrong(api.ErrOver)
	}
	return right(n)
}

func (c calendar) parts(serial int) partsResult {
	if outside(serial, 1, lastDay) {
		return partsResult{e: api.ErrArg}
	}
	month := c.monthOf(serial)
	return partsResult{year: 1900 + month/12, month: month%12 + 1, day: serial - c.first(month) + 1}
}

func (c calendar) months(serial, months int) intResult {
	if outside(serial, 1, lastDay) || outside(months, -120000, 120000) {
		return wrong(api.ErrArg)
	}
	from := c.monthOf(serial)
	to := from + months
	if outside(to, 0, monthNumber(9999, 12)) {
		return wrong(api.ErrOver)
	}
	// Of the days up to the one wanted, the last one that is still in the month.
	n := c.first(to) + serial - c.first(from)
	for c.monthOf(n) != to {
		n--
	}
	return right(n)
}

var dayForm = regexp.MustCompile(`\A([0-9]{4})-([0-9]{2})-([0-9]{2})\z`)

func (c calendar) parse(s string) intResult {
	if !dayForm.MatchString(s) {
		return wrong(api.ErrSyntax)
	}
	var year, month, day int
	fmt.Sscanf(s, "%d-%d-%d", &year, &month, &day)
	if year < 1900 || outside(month, 1, 12) || outside(day, 1, wantLength(year, month)) {
		return wrong(api.ErrOver)
	}
	return right(c.first(monthNumber(year, month)) + day - 1)
}
