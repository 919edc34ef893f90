package crit

import "foolscap/value"

// kind is what a step of a pattern stands for.
type kind byte

const (
	itself  kind = iota // its own byte
	anyByte             // one byte, whichever
	anyRow              // any row of bytes
)

// step is a step of a pattern; only one that stands for itself has a byte.
type step struct {
	kind kind
	own  byte
}

// steps tells the steps of a pattern, folded.
func steps(pattern string) []step {
	s := value.Fold(pattern)
	all := make([]step, 0, len(s))
	for i := 0; i < len(s); i++ {
		switch {
		case s[i] == '?':
			all = append(all, step{kind: anyByte})
		case s[i] == '*':
			all = append(all, step{kind: anyRow})
		case s[i] == '~' && i+1 < len(s):
			i++
			all = append(all, step{own: s[i]})
		default:
			all = append(all, step{own: s[i]})
		}
	}
	return all
}

// isWild tells whether a step stands for more than one thing.
func isWild(one step) bool { return one.kind != itself }

// written tells what steps that are not wild stand for.
func written(all []step) string {
	out := make([]byte, 0, len(all))
	for _, one := range all {
		out = append(out, one.own)
	}
	return string(out)
}

// takes tells whether a step for a single byte stands for that one.
func (one step) takes(b byte) bool { return one.kind == anyByte || one.own == b }

// match tells whether a folded text is what steps stand for. The place to come back to is just behind the last row of any bytes: what is left there of all and of s. None further ahead is needed, since what this row can't make good by taking more, no earlier one can.
func match(all []step, s string) bool {
	afterRow := false
again:
	for {
		for i, one := range all {
			switch {
			case one.kind == anyRow:
				all, s, afterRow = all[i+1:], s[i:], true
				continue again
			case i == len(s):
				return false
			case !one.takes(s[i]):
				if !afterRow {
					return false
				}
				s = s[1:]
				continue again
			}
		}
		if len(s) == len(all) || !afterRow {
			return len(s) == len(all)
		}
		s = s[1:]
	}
}
