package lex

import (
	"strings"

	"foolscap/api"
	"foolscap/num"
	"foolscap/place"
	"foolscap/value"
)

const (
	quote   = `"`
	hash    = "#"
	fixed   = "$"
	point   = "."
	bracket = "("
)

// signs are all signs, those that begin with another one ahead of it, so that the first one that stands in a text is the longest one.
var signs = [...]string{"<>", "<=", ">=", "<", ">", "=", "+", "-", "*", "/", "&", "(", ")", ",", ":"}

// first reads the token that a text begins with, and tells how many bytes it takes. A text without bytes begins with the end.
func first(s string) (api.Token, int, api.Errno) {
	if s == "" {
		return api.Token{}, 0, api.OK
	}
	switch c := s[0]; {
	case isDigit(c):
		return number(s)
	case c == quote[0]:
		return text(s)
	case c == hash[0]:
		return fault(s)
	case isLetter(c), c == fixed[0]:
		return word(s)
	}
	return sign(s)
}

func number(s string) (api.Token, int, api.Errno) {
	length := row(s, func(c byte) bool { return isDigit(c) || c == point[0] })
	n, e := num.Parse(s[:length])
	if e != api.OK {
		return wrong(e)
	}
	return valued(api.Value{Kind: api.Num, N: n}, length)
}

// text reads a text in quotes. A doubled quote closes it and opens it again at once, so that it ends where it is closed and goes on with something else.
func text(s string) (api.Token, int, api.Errno) {
	open := false
	length := row(s, func(c byte) bool {
		if c == quote[0] {
			open = !open
			return true
		}
		return open
	})
	if open {
		return wrong(api.ErrSyntax)
	}
	inner := strings.ReplaceAll(s[len(quote):length-len(quote)], quote+quote, quote)
	if len(inner) > api.MaxText {
		return wrong(api.ErrBig)
	}
	return valued(api.Value{Kind: api.Text, S: inner}, length)
}

func fault(s string) (api.Token, int, api.Errno) {
	for code := api.Div; code <= api.Cycle; code++ {
		v := api.Value{Kind: api.Fault, Code: code}
		// A fault of such a code is right, so that Show never refuses it; no name begins with another one.
		if shown, _ := value.Show(v); strings.HasPrefix(s, shown) {
			return valued(v, len(shown))
		}
	}
	return wrong(api.ErrSyntax)
}

// word reads a name, a truth or a cell; what stands just behind it tells a name from the others.
func word(s string) (api.Token, int, api.Errno) {
	length := row(s, func(c byte) bool {
		return isLetter(c) || isDigit(c) || c == fixed[0] || c == point[0] || c == '_'
	})
	w := s[:length]
	if strings.HasPrefix(s[length:], bracket) {
		return name(w)
	}
	if b, c := value.Truth(api.Value{Kind: api.Text, S: w}); c == api.None {
		return valued(api.Value{Kind: api.Bool, B: b}, length)
	}
	cell, e := place.Parse(w)
	if e != api.OK {
		return wrong(e)
	}
	return api.Token{Kind: api.TCell, Cell: cell}, length, api.OK
}

// name makes a name of a word. A word that does not begin with a letter begins with a $, which no name has anywhere.
func name(w string) (api.Token, int, api.Errno) {
	if strings.Contains(w, fixed) || len(w) > api.MaxName {
		return wrong(api.ErrSyntax)
	}
	return api.Token{Kind: api.TName, S: value.Fold(w)}, len(w), api.OK
}

func sign(s string) (api.Token, int, api.Errno) {
	for _, each := range signs {
		if strings.HasPrefix(s, each) {
			return api.Token{Kind: api.TOp, S: each}, len(each), api.OK
		}
	}
	return wrong(api.ErrSyntax)
}

func valued(v api.Value, length int) (api.Token, int, api.Errno) {
	return api.Token{Kind: api.TValue, Value: v}, length, api.OK
}

func wrong(e api.Errno) (api.Token, int, api.Errno) { return api.Token{}, 0, e }
