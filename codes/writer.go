package codes

import "strconv"

// writer has what the pieces of a section write: of the number, the day and the text it has the one that the section's kind asks for.
type writer struct {
	place            place
	number           int
	year, month, day int
	text             string
}

// by tells what writes the pieces of a kind.
func (w *writer) by(k kind) func(p piece) string {
	switch k {
	case number:
		return w.digits
	case day:
		return w.partOfDay
	case text:
		return w.whole
	}
	return w.itself
}

// itself writes words, and hundreds.
func (w *writer) itself(p piece) string { return p.text }

func (w *writer) digits(piece) string { return w.place.write(w.number) }

func (w *writer) whole(piece) string { return w.text }

// partOfDay writes a part of the day, with at least as many digits as there are letters.
func (w *writer) partOfDay(p piece) string {
	n := w.year
	switch p.text {
	case "yy":
		n %= 100
	case "mm", "m":
		n = w.month
	case "dd", "d":
		n = w.day
	}
	return padded(strconv.Itoa(n), len(p.text))
}
