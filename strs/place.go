package strs

import "strings"

// placed tells the first place from one on at which a text goes on as it is asked to. Further on than just behind the text's end there is none.
func placed(s string, from int, goesOn func(rest string) bool) int {
	for i := ahead(from); i <= len(s); i++ {
		if goesOn(s[i:]) {
			return i + 1
		}
	}
	panic(refused)
}

// openEnded tells the pattern that a text is like where some beginning of it is like the one handed in, so that not every beginning has to be asked. A ~ at the end, which stands for itself, would make the * behind it stand for itself too; it is doubled, so that it is itself there as well.
func openEnded(pattern string) string {
	marks := len(pattern) - len(strings.TrimRight(pattern, "~"))
	if marks%2 == 1 {
		pattern += "~"
	}
	return pattern + "*"
}
