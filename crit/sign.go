package crit

import (
	"strings"

	"foolscap/api"
	"foolscap/value"
)

// The signs.
const (
	same     = "="
	other    = "<>"
	below    = "<"
	above    = ">"
	notAbove = "<="
	notBelow = ">="
)

// signs are all signs, each one ahead of those that it begins with.
var signs = [...]string{other, notAbove, notBelow, same, below, above}

// signAhead tells the longest sign that a text begins with, nothing if it begins with none.
func signAhead(s string) string {
	for _, sign := range signs {
		if strings.HasPrefix(s, sign) {
			return sign
		}
	}
	return ""
}

// isSign tells whether a text is a sign, and nothing else.
func isSign(s string) bool {
	return s != "" && signAhead(s) == s
}

// standsSo tells whether two values of a kind that has an order stand to one another as a sign of order says.
func standsSo(v api.Value, sign string, asked api.Value) bool {
	order, _ := value.Compare(v, asked)
	switch sign {
	case below:
		return order < 0
	case above:
		return order > 0
	case notAbove:
		return order <= 0
	}
	return order >= 0
}
