package strs

import (
	"math/rand"
	"strings"
	"testing"

	"foolscap/api"
	"foolscap/crit"
)

// scatteredTexts are many, beside those at which something turns.
func scatteredTexts(seed int64, many, longest int) []string {
	r, out := rand.New(rand.NewSource(seed)), texts()
	for range many {
		out = append(out, scattered(r, longest))
	}
	return out
}

// sure tells the text of a call that must not answer a code.
func sure(t *testing.T) func(s string, c api.Code) string {
	return func(s string, c api.Code) string {
		t.Helper()
		if c != api.None {
			t.Errorf("a code: %d", c)
		}
		return s
	}
}

// P14.6: a text is its first bytes and the rest, which Right and Mid tell alike.
func TestATextIsItsParts(t *testing.T) {
	told := sure(t)
	for _, s := range scatteredTexts(1, 200, 255) {
		for n := 0; n <= len(s); n++ {
			front, end, rest := told(Left(s, n)), told(Right(s, len(s)-n)), told(Mid(s, n+1, len(s)))
			if len(front) != n || front+end != s || rest != end {
				t.Errorf("%q behind %d bytes: %q, %q, %q", s, n, front, end, rest)
			}
		}
	}
}

// P14.6: what stands between the first bytes and the last ones is Mid.
func TestWhatStandsBetweenIsMid(t *testing.T) {
	told := sure(t)
	for _, s := range scatteredTexts(2, 40, 40) {
		for n := 0; n <= len(s); n += 1 + len(s)/50 {
			for m := 0; n+m <= len(s); m += 1 + len(s)/50 {
				between := told(Mid(s, n+1, m))
				if whole := told(Join([]string{told(Left(s, n)), between, told(Right(s, len(s)-n-m))})); len(between) != m || whole != s {
					t.Errorf("%q behind %d bytes, %d of them: %q", s, n, m, between)
				}
			}
		}
	}
}

// P14.7
func TestWhatIsFoundStandsThere(t *testing.T) {
	r, found := rand.New(rand.NewSource(3)), 0
	for range 20000 {
		part, s := scattered(r, 3), scattered(r, 30)
		from := 1 + r.Intn(len(s)+1)
		at, c := Find(part, s, from)
		end := len(s) + 1
		if c == api.None {
			found++
			end = at
			if at < from || !strings.HasPrefix(s[at-1:], part) {
				t.Errorf("Find(%q, %q, %d) = %d", part, s, from, at)
			}
			if there, _ := Mid(s, at, len(part)); there != part {
				t.Errorf("at %d of %q stands %q", at, s, there)
			}
		}
		for place := from; place < end; place++ {
			if there, _ := Mid(s, place, len(part)); there == part {
				t.Errorf("Find(%q, %q, %d) = %d, %d, but it stands at %d", part, s, from, at, c, place)
			}
		}
	}
	if found < 2000 {
		t.Errorf("%d of the scattered parts are found", found)
	}
}

// isLikeAt tells whether some beginning of what stands at a place is like a pattern.
func isLikeAt(pattern, s string, place int) bool {
	for n := 0; place+n <= len(s)+1; n++ {
		if there, _ := Mid(s, place, n); crit.Like(pattern, there) {
			return true
		}
	}
	return false
}

// P14.7
func TestWhatIsSearchedForStandsThere(t *testing.T) {
	r, found := rand.New(rand.NewSource(4)), 0
	for range 20000 {
		pattern, s := scattered(r, 4), scattered(r, 12)
		from := 1 + r.Intn(len(s)+1)
		at, c := Search(pattern, s, from)
		end := len(s) + 2
		if c == api.None {
			found++
			end = at
			if at < from || !isLikeAt(pattern, s, at) {
				t.Errorf("Search(%q, %q, %d) = %d", pattern, s, from, at)
			}
		}
		for place := from; place < end; place++ {
			if isLikeAt(pattern, s, place) {
				t.Errorf("Search(%q, %q, %d) = %d, %d, but it stands at %d", pattern, s, from, at, c, place)
			}
		}
	}
	if found < 2000 {
		t.Errorf("%d of the scattered patterns are found", found)
	}
}

// P14.7: a text without ?, * and ~ is searched for as it is found, but for great letters and small ones.
func TestSearchOfPlainTextsIsFind(t *testing.T) {
	for _, s := range wordsOver("ab", 6) {
		for _, part := range wordsOver("ab", 3) {
			for from := range len(s) + 3 {
				want := asPlace(Find(part, s, from))
				if got := asPlace(Search(strings.ToUpper(part), s, from)); got != want {
					t.Errorf("Search(%q, %q, %d) = %+v, but Find %+v", part, s, from, got, want)
				}
			}
		}
	}
}

// P14.8: behind the end it stands just behind the last byte.
func TestWhatIsPutInAPlaceStandsThere(t *testing.T) {
	told := sure(t)
	for _, s := range scatteredTexts(5, 40, 100) {
		for _, u := range []string{"", "a", "xyz", "\xff ", times("y", 150)} {
			for at := 1; at <= len(s)+3; at += 1 + len(s)/20 {
				for _, n := range []int{0, 1, 2, len(s)/2 + 1, len(s), len(s) + 1} {
					put, c := Replace(s, at, n, u)
					place := min(at, len(s)+1)
					left := max(len(s)-(place-1)-n, 0)
					if want := place - 1 + len(u) + left; want > most || c != api.None {
						if want <= most || c != api.Wrong || put != "" {
							t.Errorf("Replace(%q, %d, %d, %q) = %q, %d", s, at, n, u, put, c)
						}
						continue
					}
					if told(Mid(put, place, len(u))) != u || told(Left(put, place-1)) != told(Left(s, place-1)) || told(Mid(put, place+len(u), most)) != told(Right(s, left)) {
						t.Errorf("Replace(%q, %d, %d, %q) = %q", s, at, n, u, put)
					}
				}
			}
		}
	}
}

// P14.8: what stood in a place, put there again, makes the text that there was.
func TestWhatIsPutBack(t *testing.T) {
	told := sure(t)
	for _, s := range scatteredTexts(6, 100, 60) {
		for at := 1; at <= len(s)+1; at += 1 + len(s)/30 {
			for n := 0; n <= len(s)-at+1; n += 1 + len(s)/30 {
				was := told(Mid(s, at, n))
				if len(s)-n == most {
					continue // there is no room for a byte
				}
				if back := told(Replace(told(Replace(s, at, n, "q")), at, 1, was)); back != s {
					t.Errorf("%q put back in %q at %d: %q", was, s, at, back)
				}
			}
		}
	}
}

// P14.8: each old one is new, and none is left but such as came about.
func TestWhatIsPutInThePlaceOfEachStandsThere(t *testing.T) {
	told := sure(t)
	for _, s := range wordsOver("ab", 8) {
		for _, old := range []string{"a", "b", "ab", "aa", "aba"} {
			all := told(Substitute(s, old, "q", 0))
			if again := told(Substitute(all, "q", old, 0)); again != s || strings.Contains(all, old) {
				t.Errorf("%q with q for %q is %q, and back %q", s, old, all, again)
			}
			one := s
			for range strings.Count(all, "q") {
				one = told(Substitute(one, old, "q", 1))
			}
			if one != all {
				t.Errorf("%q with q for %q is %q, one by one %q", s, old, all, one)
			}
		}
	}
}

// P14.8
func TestATextTrimmedTwiceIsTrimmed(t *testing.T) {
	told := sure(t)
	for _, s := range append(scatteredTexts(7, 2000, 255), wordsOver("a \t", 6)...) {
		once := told(Trim(s))
		if twice := told(Trim(once)); twice != once {
			t.Errorf("%q trimmed is %q, trimmed twice %q", s, once, twice)
		}
		if strings.HasPrefix(once, " ") || strings.HasSuffix(once, " ") || strings.Contains(once, "  ") || strings.ReplaceAll(once, " ", "") != strings.ReplaceAll(s, " ", "") {
			t.Errorf("%q trimmed is %q", s, once)
		}
	}
}

// P14.4, P14.6: a text repeated is the text joined with itself, and its parts are the text.
func TestARepeatedTextIsJoinedWithItself(t *testing.T) {
	for _, s := range scatteredTexts(8, 100, 80) {
		for n := range 6 {
			l := make([]string, n)
			for i := range l {
				l[i] = s
			}
			if got, want := asText(Repeat(s, n)), asText(Join(l)); got != want {
				t.Errorf("Repeat(%q, %d) = %#v, joined %#v", s, n, got, want)
			}
		}
	}
}
