package strs

import (
	"iter"
	"strings"
)

// parted tells a text's first bytes, as many as there are, and what is left.
func parted(s string, n int) (front, rest string) {
	n = min(n, len(s))
	return s[:n], s[n:]
}

// parts hands on what stands between marks that are looked for from the left, each part with how many marks stand ahead of it. The empty mark parts nothing.
func parts(s, mark string) iter.Seq2[int, string] {
	return func(yield func(int, string) bool) {
		if mark == "" {
			yield(0, s)
			return
		}
		for i, rest, more := 0, s, true; more; i++ {
			var part string
			part, rest, more = strings.Cut(rest, mark)
			if !yield(i, part) {
				return
			}
		}
	}
}
