package lex

import (
	"math/rand"
	"slices"
	"strings"
	"testing"

	"foolscap/api"
	"foolscap/value"
)

// shifted are tokens that stand some bytes further on.
func shifted(l []api.Token, by int) []api.Token {
	out := slices.Clone(l)
	for i := range out {
		out[i].At += by
	}
	return out
}

// P7.2: blanks ahead of all tokens, behind them, and between each two (but a name and its bracket, which stands just behind it) move what follows, and change nothing else.
func TestBlanks(t *testing.T) {
	r := rand.New(rand.NewSource(2))
	for _, s := range rightTexts(2, 8000) {
		want, _, e := Scan(s)
		if e != api.OK {
			t.Fatalf("Scan(%q) is refused: %d", s, e)
		}
		var wide strings.Builder
		added, last := 0, 0
		for i := range want {
			at := want[i].At
			wide.WriteString(s[last:at])
			if many := r.Intn(4); i == 0 || want[i-1].Kind != api.TName {
				wide.WriteString(strings.Repeat(" ", many))
				added += many
			}
			want[i].At, last = at+added, at
		}
		if wide.Len() > 1024 {
			continue
		}
		if got := asResult(Scan(wide.String())); !same(got, result{tokens: want}) {
			t.Errorf("%q, with blanks %q: %v, want %v", s, wide.String(), got, want)
		}
	}
}

// P7.2: each token by itself, with blanks about it.
func TestBlanksAboutOne(t *testing.T) {
	for _, s := range pieces() {
		l, _, e := Scan(s)
		if e != api.OK {
			t.Fatalf("Scan(%q) is refused: %d", s, e)
		}
		for ahead := range 4 {
			for behind := range 4 {
				want := shifted(l, ahead)
				want[len(want)-1].At += behind
				wide := strings.Repeat(" ", ahead) + s + strings.Repeat(" ", behind)
				if got := asResult(Scan(wide)); !same(got, result{tokens: want}) {
					t.Errorf("Scan(%q) = %v, want %v", wide, got, want)
				}
			}
		}
	}
}

// P7.2: blanks within a text are a part of it.
func TestBlanksWithin(t *testing.T) {
	for many := range 256 {
		blanks := strings.Repeat(" ", many)
		right(t, ` "`+blanks+`" `, textAt(1, blanks))
	}
	refused(t, "< =;", 3, api.ErrSyntax)
	refused(t, "# N/A", 0, api.ErrSyntax)
	refused(t, "A 1", 0, api.ErrSyntax)
	refused(t, "tr ue", 0, api.ErrSyntax)
	right(t, "< =", signAt(0, "<"), signAt(2, "="))
	right(t, "1 2", numberAt(0, 1000000), numberAt(2, 2000000))
}

// P7.3: with a blank between, two texts tell what each of them tells; so they do with what is wrong in the second one.
func TestParts(t *testing.T) {
	check := func(a, b string) {
		joint := a + " " + b
		first, second := asResult(Scan(a)), asResult(Scan(b))
		if first.e != api.OK || len(joint) > 1024 {
			return
		}
		want := result{tokens: append(first.tokens[:len(first.tokens)-1:len(first.tokens)-1], shifted(second.tokens, len(a)+1)...)}
		if second.e != api.OK {
			want = result{at: second.at + len(a) + 1, e: second.e}
		}
		if got := asResult(Scan(joint)); !same(got, want) {
			t.Errorf("%q and %q tell %v and %v, both of them %v", a, b, first, second, got)
		}
	}
	for _, a := range pieces() {
		for _, b := range append(pieces(), wrongPieces()...) {
			check(a, b)
		}
	}
	texts := rightTexts(3, 4000)
	for i, a := range texts {
		check(a, texts[len(texts)-1-i])
		check(a, "")
		check("", a)
	}
}

// P7.4: tokens rise, each but the end begins with a byte that is no blank, the end stands at the text's end, and what a token does not have is zero.
func TestPlaces(t *testing.T) {
	for _, s := range rightTexts(4, 8000) {
		l, at, e := Scan(s)
		if e != api.OK || at != 0 || len(l) == 0 || l[len(l)-1] != endAt(len(s)) {
			t.Fatalf("Scan(%q) = %v, %d, %d", s, l, at, e)
		}
		last := -1
		for _, k := range l[:len(l)-1] {
			if k.At <= last || k.At >= len(s) || s[k.At] == ' ' || k.Kind == api.TEnd {
				t.Errorf("Scan(%q) = %v: the token %v behind %d", s, l, k, last)
			}
			if !proper(k) {
				t.Errorf("Scan(%q) = %v: the token %v is none", s, l, k)
			}
			last = k.At
		}
		if strings.Trim(s[:l[0].At], " ") != "" {
			t.Errorf("Scan(%q) = %v: something stands ahead of the first token", s, l)
		}
	}
}

// proper tells whether a token is one of its kind, and has nothing else.
func proper(k api.Token) bool {
	k.At = 0
	switch k.Kind {
	case api.TValue:
		return k == api.Token{Kind: api.TValue, Value: k.Value} && value.Check(k.Value) == api.OK && k.Value.Kind != api.Blank && k.Value.N >= 0
	case api.TCell:
		c := k.Cell.At
		return k == api.Token{Kind: api.TCell, Cell: k.Cell} && c.Row >= 1 && c.Row <= lastRow && c.Col >= 1 && c.Col <= lastCol
	case api.TName:
		return k == api.Token{Kind: api.TName, S: k.S} && nameForm.MatchString(k.S) && k.S == inGreat(k.S)
	case api.TOp:
		return k == api.Token{Kind: api.TOp, S: k.S} && slices.Contains(signsOfChapter(), k.S)
	}
	return false
}

// P7.1: what stands ahead of what is wrong is right, and from there on the text is wrong at once.
func TestWhereItIsWrong(t *testing.T) {
	r := rand.New(rand.NewSource(5))
	many := 0
	for range 30000 {
		s := scatteredText(r, true) + wrongPieces()[r.Intn(len(wrongPieces()))]
		l, at, e := Scan(s)
		if e == api.OK || len(s) > 1024 {
			continue
		}
		many++
		if len(l) != 0 || at < 0 || at >= len(s) || s[at] == ' ' {
			t.Fatalf("Scan(%q) = %v, %d, %d", s, l, at, e)
		}
		if _, _, no := Scan(s[:at]); no != api.OK {
			t.Errorf("Scan(%q) is refused at %d, and what stands ahead of that too: %d", s, at, no)
		}
		if got := asResult(Scan(s[at:])); !same(got, result{e: e}) {
			t.Errorf("Scan(%q) is refused at %d: %d, but from there on %v", s, at, e, got)
		}
	}
	if many < 1000 {
		t.Errorf("%d texts were wrong", many)
	}
}
