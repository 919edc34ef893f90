package codes

import (
	"iter"
	"strings"
)

// kind is what a piece is, and what a section is by its pieces.
type kind int

const (
	words kind = iota
	number
	hundred
	day
	text
	parting // between two sections
	kinds   // how many kinds there are
)

const (
	// marks are the bytes of a number's place.
	marks = "0#,."
	// selves are the bytes that are words by themselves.
	selves = " $()+-/:!="
)

// piece is one piece of a format: of words its text is what they write, of others it is what stands there.
type piece struct {
	kind kind
	text string
}

// pieces hands on a format's pieces, and those that part its sections. It panics with a refusal where none begins.
func pieces(code string) iter.Seq[piece] {
	return func(yield func(piece) bool) {
		for rest := code; rest != ""; {
			p, length := first(rest)
			if !yield(p) {
				return
			}
			rest = rest[length:]
		}
	}
}

// first reads the piece that a text begins with, and tells how many bytes it takes.
func first(s string) (piece, int) {
	switch s[0] {
	case '"':
		return quoted(s)
	case '\\':
		return escaped(s)
	case '%':
		return plain(hundred, s, 1)
	case '@':
		return plain(text, s, 1)
	case ';':
		return plain(parting, s, 1)
	case 'y', 'm', 'd':
		return partOfDay(s)
	}
	if length := row(s, marks); length > 0 {
		return plain(number, s, length)
	}
	if !strings.Contains(selves, s[:1]) {
		refuse()
	}
	return plain(words, s, 1)
}

// plain tells a piece whose text is as it stands.
func plain(k kind, s string, length int) (piece, int) {
	return piece{k, s[:length]}, length
}

// quoted reads the bytes between two quotes.
func quoted(s string) (piece, int) {
	inner, _, closed := strings.Cut(s[1:], `"`)
	if !closed {
		refuse()
	}
	return piece{words, inner}, len(inner) + 2
}

// escaped reads the byte behind a \.
func escaped(s string) (piece, int) {
	if len(s) < 2 {
		refuse()
	}
	return piece{words, s[1:2]}, 2
}

func partOfDay(s string) (piece, int) {
	length := row(s, s[:1])
	switch s[:length] {
	case "yyyy", "yy", "mm", "m", "dd", "d":
	default:
		refuse()
	}
	return plain(day, s, length)
}

// row tells how many bytes from the front on are among some.
func row(s, some string) int { return len(s) - len(strings.TrimLeft(s, some)) }
