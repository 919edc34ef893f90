package num

import (
	"strconv"
	"strings"

	"foolscap/api"
)

const (
	// maxParsed is how many bytes a number's text may have.
	maxParsed = 40
	// noughts are the digits of a fraction that is not written.
	noughts = "000000"
)

// Parse reads a number.
func Parse(s string) (int, api.Errno) {
	if len(s) > maxParsed {
		return 0, api.ErrSyntax
	}
	rest, below := strings.CutPrefix(s, "-")
	whole, fraction, point := strings.Cut(rest, ".")
	if !isDigits(whole) || point && !isFraction(fraction) {
		return 0, api.ErrSyntax
	}
	millionths := whole + fraction + noughts[len(fraction):]
	return fitted(signed(below)(gather(millionths)))
}

// Print writes a number in its shortest form.
func Print(n int) (string, api.Errno) {
	if !Fits(n) {
		return "", api.ErrArg
	}
	text := ""
	if n < 0 {
		text = "-"
	}
	text += strconv.FormatUint(size(n)/api.Unit, 10)
	// The unit that is added keeps the noughts ahead.
	millionths := strconv.FormatUint(size(n)%api.Unit+api.Unit, 10)[1:]
	if fraction := strings.TrimRight(millionths, "0"); fraction != "" {
		text += "." + fraction
	}
	return text, api.OK
}

// isFraction tells whether a text may stand behind a point.
func isFraction(s string) bool { return isDigits(s) && len(s) <= len(noughts) }

// isDigits tells whether a text is one or more digits.
func isDigits(s string) bool {
	for i := range len(s) {
		if s[i] < '0' || s[i] > '9' {
			return false
		}
	}
	return s != ""
}

// gather tells the number that digits make, or MaxNum + 1 for all beyond it: forty digits are more than a word bears.
func gather(digits string) uint64 {
	n := uint64(0)
	for i := range len(digits) {
		n = min(n*10+uint64(digits[i]-'0'), api.MaxNum+1)
	}
	return n
}
