package dates

const (
	// yearMonths is how many months a year has.
	yearMonths = 12
	// plainYear is how many days a year has that is no leap year.
	plainYear = 365
	// february is the month that is longer in a leap year.
	february = 2
)

// lengths are how many days the months have in a year that is no leap year.
var lengths = [yearMonths]int{31, 28, 31, 30, 31, 30, 31, 31, 30, 31, 30, 31}

// parts are a day's year, month and day. The month and the day may lie outside of their year and month, on either side: then they count on from there.
type parts struct{ year, month, day int }

// lengthOf tells how many days a month has, which is one from 1 to 12.
func lengthOf(year, month int) int {
	if month == february && Leap(year) {
		return lengths[month-1] + 1
	}
	return lengths[month-1]
}

// carried tells parts with the month within its year; the day stays as it is.
func (p parts) carried() parts {
	years, month := parted(p.month-1, yearMonths)
	return parts{p.year + years, month + 1, p.day}
}

// count tells the number of the day: below 1, if it lies ahead of the day 1.
func (p parts) count() int {
	p = p.carried()
	serial := daysAhead(p.year) + p.day
	for month := 1; month < p.month; month++ {
		serial += lengthOf(p.year, month)
	}
	return serial
}

// partsOf takes a day apart.
func partsOf(serial int) parts {
	// No year has more days than this, so that the day's year is this one or lies a little behind it.
	p := parts{firstYear + (serial-1)/(plainYear+1), 1, 1}
	for daysAhead(p.year+1) < serial {
		p.year++
	}
	p.day = serial - daysAhead(p.year)
	for p.day > lengthOf(p.year, p.month) {
		p.day -= lengthOf(p.year, p.month)
		p.month++
	}
	return p
}

// daysAhead tells how many days there are from the day 1 on ahead of a year; below 0, if the year itself lies ahead of the first one.
func daysAhead(year int) int {
	return plainYear*(year-firstYear) + leapsAhead(year) - leapsAhead(firstYear)
}

// leapsAhead tells how many leap years lie ahead of a year, counted from the year 1 on; below 0, if the year itself lies ahead of that one.
func leapsAhead(year int) int {
	fours, _ := parted(year-1, 4)
	hundreds, _ := parted(year-1, 100)
	fourHundreds, _ := parted(year-1, 400)
	return fours - hundreds + fourHundreds
}

// parted tells n divided by a positive d, rounded down, and the rest, which is never below 0.
func parted(n, d int) (times, rest int) {
	times, rest = n/d, n%d
	if rest < 0 {
		return times - 1, rest + d
	}
	return times, rest
}
