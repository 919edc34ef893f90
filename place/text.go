package place

import (
	"strconv"
	"strings"
)

const (
	// maxLetters is how many letters may name a column, on the sheet or beyond it.
	maxLetters = 3
	// maxDigits is how many digits may name a row, on the sheet or beyond it.
	maxDigits = 7
	// alphabet is how many letters there are.
	alphabet = 26
	// fixed stands ahead of what is fixed.
	fixed = "$"
)

// cut hands the longest front of s that has at most most bytes, all of a kind, to take, and tells what is behind it. The front may have no bytes.
func cut(s string, most int, kind func(c byte) bool, take func(front string)) string {
	n := 0
	for n < min(most, len(s)) && kind(s[n]) {
		n++
	}
	take(s[:n])
	return s[n:]
}

func isLetter(c byte) bool { return 'A' <= c && c <= 'Z' || 'a' <= c && c <= 'z' }
func isDigit(c byte) bool  { return '0' <= c && c <= '9' }
func isFixed(c byte) bool  { return c == fixed[0] }

// sign tells what is written ahead of letters or digits.
func sign(fix bool) string {
	if fix {
		return fixed
	}
	return ""
}

// lettersOf tells the letters of a column. They have no nought: Z, the 26th, is followed by AA, so that one is taken off ahead of each letter.
func lettersOf(col int) string {
	letters := ""
	for rest := col; rest > 0; rest = (rest - 1) / alphabet {
		letters = string(rune('A'+(rest-1)%alphabet)) + letters
	}
	return letters
}

// columnOf tells the column that letters name, 0 if there are none.
func columnOf(letters string) int {
	col := 0
	for _, c := range []byte(strings.ToUpper(letters)) {
		col = col*alphabet + int(c-'A') + 1
	}
	return col
}

// rowOf tells the row that digits name, 0 if they name none: a row has one writing, which does not begin with 0.
func rowOf(digits string) int {
	if digits == "" || digits[0] == '0' {
		return 0
	}
	// So few digits are never too great to be read.
	row, _ := strconv.Atoi(digits)
	return row
}
