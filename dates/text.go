package dates

import (
	"strconv"
	"strings"
)

// shape is how a day is written: 0 stands for any digit.
const shape = "0000-00-00"

// isShaped tells whether a text is written as a day is, be there such a day or not.
func isShaped(s string) bool {
	if len(s) != len(shape) {
		return false
	}
	for i := range len(shape) {
		if !fits(s[i], shape[i]) {
			return false
		}
	}
	return true
}

// fits tells whether a byte may stand where the shape has this one.
func fits(c, model byte) bool {
	if model == '0' {
		return '0' <= c && c <= '9'
	}
	return c == model
}

// read tells the parts that stand in a text of the shape.
func read(s string) parts {
	return parts{number(s[:4]), number(s[5:7]), number(s[8:])}
}

// number tells the number of some digits.
func number(digits string) int {
	// So few digits are never too great to be read.
	n, _ := strconv.Atoi(digits)
	return n
}

// text writes the parts of a day.
func (p parts) text() string {
	return padded(p.year, 4) + "-" + padded(p.month, 2) + "-" + padded(p.day, 2)
}

// padded tells a number, which is not below 0, with noughts ahead up to so many digits.
func padded(n, width int) string {
	digits := strconv.Itoa(n)
	return strings.Repeat("0", max(0, width-len(digits))) + digits
}
