package codes

import (
	"strings"

	"foolscap/api"
	"foolscap/num"
)

const (
	// maxSections is how many sections a format may have.
	maxSections = 3
	// maxHundreds is how many hundreds a section may have.
	maxHundreds = 2
)

// refusal is what a reader gives up with.
type refusal api.Errno

// refuse ends the reading of a text that is no format.
func refuse() { panic(refusal(api.ErrSyntax)) }

// section is pieces, one behind the other; counts tell how many there are of each kind. Its place is that of the one number that it may have.
type section struct {
	pieces []piece
	counts [kinds]int
	place  place
}

// sections tells the sections of a format, or why the text is none.
func sections(code string) (all []section, e api.Errno) {
	defer func() {
		switch thrown := recover().(type) {
		case nil:
		case refusal:
			all, e = nil, api.Errno(thrown)
		default:
			panic(thrown)
		}
	}()
	return read(code), api.OK
}

// read tells the sections of a format, or panics with a refusal.
func read(code string) []section {
	if len(code) > api.MaxCode {
		panic(refusal(api.ErrBig))
	}
	all := []section{{}}
	for p := range pieces(code) {
		if p.kind == parting {
			all = append(all, section{})
			continue
		}
		all[len(all)-1].take(p)
	}
	if len(all) > maxSections {
		refuse()
	}
	for _, s := range all {
		if !s.right() {
			refuse()
		}
	}
	return all
}

// take puts a piece behind the others.
func (s *section) take(p piece) {
	if p.kind == number {
		s.place = placeOf(p.text)
	}
	s.counts[p.kind]++
	s.pieces = append(s.pieces, p)
}

// right tells whether a section may be.
func (s *section) right() bool {
	own := s.kind()
	switch {
	// Of the three kinds that a section may be of, beside words, it has one alone.
	case own != words && s.counts[own] < s.counts[number]+s.counts[day]+s.counts[text]:
		return false
	case own != number && s.counts[hundred] > 0:
		return false
	}
	return s.counts[number] <= 1 && s.counts[hundred] <= maxHundreds
}

// kind tells a section's kind. In a section that may be, no more than one of the cases holds.
func (s *section) kind() kind {
	switch {
	case s.counts[number] > 0:
		return number
	case s.counts[day] > 0:
		return day
	case s.counts[text] > 0:
		return text
	}
	return words
}

// sized tells a number, not below 0, as the section's place has it: times 100 for each hundred, and rounded.
func (s *section) sized(n int) (int, api.Code) {
	for range s.counts[hundred] {
		more, e := num.Mul(n, 100*api.Unit)
		if e != api.OK {
			return 0, api.Range
		}
		n = more
	}
	rounded, e := num.Round(n, min(s.place.decimals(), mostDecimals))
	if e != api.OK {
		return 0, api.Range
	}
	return rounded, api.None
}

// write puts together what a section's pieces write.
func (s *section) write(w writer) string {
	var out strings.Builder
	for _, p := range s.pieces {
		out.WriteString(w.by(p.kind)(p))
	}
	return out.String()
}
