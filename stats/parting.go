package stats

import (
	"cmp"
	"slices"
)

// kth tells which one of a list is the k-th, the least first; k is from 1 to the list's length.
func kth[T cmp.Ordered](l []T, k int) T {
	rest := slices.Clone(l)
	for {
		by := middling(rest)
		below, above := parted(rest, by)
		switch {
		case k <= below:
			rest = rest[:below]
		case k <= above:
			return by
		default:
			rest, k = rest[above:], k-above
		}
	}
}

// parted puts what is less than by to the front of a list, and what is greater to its end, and tells where the ones end and the others begin.
func parted[T cmp.Ordered](l []T, by T) (below, above int) {
	above = len(l)
	for i := 0; i < above; {
		switch side := cmp.Compare(l[i], by); {
		case side < 0:
			l[i], l[below] = l[below], l[i]
			below++
			i++
		case side > 0:
			above--
			l[i], l[above] = l[above], l[i]
		default:
			i++
		}
	}
	return below, above
}

// middling tells the one in the midst of a list's first, middle and last, so that lists that rise or fall are parted in halves.
func middling[T cmp.Ordered](l []T) T {
	first, middle, last := l[0], l[len(l)/2], l[len(l)-1]
	return max(min(first, middle), min(max(first, middle), last))
}
