package codes

import (
	"slices"
	"strconv"
	"strings"

	"foolscap/api"
)

// mostDecimals is how many decimal places a number has.
const mostDecimals = 6

// group is how many digits stand between two commas.
const group = 3

// place is what a number's place asks for: noughts are the fewest digits of the whole part; behind a point stand as many digits as are fixed, and as many more as are free and needed.
type place struct {
	comma, point         bool
	noughts, fixed, free int
}

// placeOf reads a row of 0, #, comma and point, or panics with a refusal.
func placeOf(row string) place {
	whole, fraction, point := strings.Cut(row, ".")
	groups := strings.Split(whole, ",")
	// A comma that may not be has nothing on one of its sides; without commas, nothing is no whole part.
	if slices.Contains(groups, "") || !isRow(strings.Join(groups, ""), "#", "0") || !isRow(fraction, "0", "#") {
		refuse()
	}
	return place{
		comma:   len(groups) > 1,
		point:   point,
		noughts: strings.Count(whole, "0"),
		fixed:   strings.Count(fraction, "0"),
		free:    strings.Count(fraction, "#"),
	}
}

// isRow tells whether a text is any of one mark, and then any of another one.
func isRow(s, front, back string) bool {
	return strings.TrimLeft(strings.TrimLeft(s, front), back) == ""
}

// decimals tells how many digits may stand behind the point.
func (p place) decimals() int { return p.fixed + p.free }

// write writes a number that is not below 0, and is rounded to no more decimals than the place has.
func (p place) write(n int) string {
	out := p.whole(n / api.Unit)
	if p.point {
		out += "." + p.fraction(n%api.Unit)
	}
	return out
}

func (p place) whole(n int) string {
	digits := ""
	if n > 0 {
		digits = strconv.Itoa(n)
	}
	digits = padded(digits, p.noughts)
	if p.comma {
		return grouped(digits)
	}
	return digits
}

func (p place) fraction(millionths int) string {
	digits := padded(strconv.Itoa(millionths), mostDecimals)
	digits += strings.Repeat("0", max(0, p.fixed-mostDecimals))
	return digits[:p.fixed] + strings.TrimRight(digits[p.fixed:], "0")
}

// grouped puts a comma ahead of each three digits from the right that have others ahead.
func grouped(digits string) string {
	out := ""
	for len(digits) > group {
		cut := len(digits) - group
		out = "," + digits[cut:] + out
		digits = digits[:cut]
	}
	return digits + out
}

// padded puts noughts ahead of digits, up to so many in all.
func padded(digits string, width int) string {
	return strings.Repeat("0", max(0, width-len(digits))) + digits
}
