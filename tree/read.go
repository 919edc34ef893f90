package tree

import (
	"errors"
	"strconv"

	"foolscap/api"
	"foolscap/lex"
)

// refusal is what a reader gives up with.
type refusal struct {
	at int
	e  api.Errno
}

func (r refusal) Error() string {
	return "no formula: error " + strconv.Itoa(int(r.e)) + " at byte " + strconv.Itoa(r.at)
}

// refused tells what a reader gave up with; anything else that was thrown goes on.
func refused(thrown any) (api.Node, int, api.Errno) {
	var r refusal
	if err, ok := thrown.(error); ok && errors.As(err, &r) {
		return api.Node{}, r.at, r.e
	}
	panic(thrown)
}

// reader has the tokens that are still to be read; the last one of them, the end, is never taken.
type reader struct{ rest []api.Token }

// read tells the formula of a text, or panics with a refusal.
func read(s string) api.Node {
	tokens, at, e := lex.Scan(s)
	if e != api.OK {
		panic(refusal{at, e})
	}
	r := reader{tokens}
	n := r.formula(loosest)
	if r.rest[0].Kind != api.TEnd {
		r.giveUp()
	}
	if e := Check(n); e != api.OK {
		panic(refusal{0, e})
	}
	return n
}

// giveUp ends the reading at the token that can't go on.
func (r *reader) giveUp() { panic(refusal{r.rest[0].At, api.ErrSyntax}) }

func (r *reader) take() api.Token {
	t := r.rest[0]
	r.rest = r.rest[1:]
	return t
}

// at tells whether a sign stands next.
func (r *reader) at(sign string) bool {
	return r.rest[0].Kind == api.TOp && r.rest[0].S == sign
}

// pass goes over a sign that has to stand next.
func (r *reader) pass(sign string) {
	if !r.at(sign) {
		r.giveUp()
	}
	r.take()
}

// formula reads on as long as signs bind at least so tightly. What is behind a sign binds more tightly than it, so that signs that bind alike go from the left.
func (r *reader) formula(least int) api.Node {
	n := r.single()
	for {
		// No value, cell or name has an S that is such a sign.
		binds := binding(r.rest[0].S)
		if binds < least {
			return n
		}
		sign := r.take().S
		n = api.Node{Kind: api.NBin, S: sign, Kids: []api.Node{n, r.formula(binds + 1)}}
	}
}

// single reads what binds more tightly than all signs between two formulas.
func (r *reader) single() api.Node {
	switch {
	case r.rest[0].Kind == api.TValue:
		return api.Node{Kind: api.NValue, Value: r.take().Value}
	case r.rest[0].Kind == api.TCell:
		return r.cells()
	case r.rest[0].Kind == api.TName:
		return r.call()
	case r.at(minus):
		r.take()
		return api.Node{Kind: api.NNeg, Kids: []api.Node{r.single()}}
	}
	// Nothing else may begin a formula.
	r.pass(opening)
	n := r.formula(loosest)
	r.pass(closing)
	return n
}

// cells reads a cell, or a range.
func (r *reader) cells() api.Node {
	from := r.take().Cell
	if !r.at(colon) {
		return api.Node{Kind: api.NCell, Cell: from}
	}
	r.take()
	if r.rest[0].Kind != api.TCell {
		r.giveUp()
	}
	return api.Node{Kind: api.NRange, Cell: from, To: r.take().Cell}
}

func (r *reader) call() api.Node {
	n := api.Node{Kind: api.NCall, S: r.take().S}
	r.pass(opening)
	if !r.at(closing) {
		n.Kids = r.kids()
	}
	r.pass(closing)
	return n
}

// kids reads formulas, one at least, with commas between.
func (r *reader) kids() []api.Node {
	kids := []api.Node{r.formula(loosest)}
	for r.at(comma) {
		r.take()
		kids = append(kids, r.formula(loosest))
	}
	return kids
}
