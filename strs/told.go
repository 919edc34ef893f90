package strs

import (
	"foolscap/api"
	"foolscap/value"
)

// refusal is what a call gives up with.
type refusal api.Code

// refused is why a call gives up, whether a text goes too far or it is handed what may not be.
const refused = refusal(api.Wrong)

// told tells what a call comes to, or the code that it gave up with.
func told[T any](tell func() T) (answer T, c api.Code) {
	defer func() {
		switch thrown := recover().(type) {
		case nil:
		case refusal:
			c = api.Code(thrown)
		default:
			panic(thrown)
		}
	}()
	return tell(), api.None
}

// right tells a text again, if a value may have it.
func right(s string) string {
	if value.Check(api.Value{Kind: api.Text, S: s}) != api.OK {
		panic(refused)
	}
	return s
}

// count tells a count again, if it may be one.
func count(n int) int {
	if n < 0 {
		panic(refused)
	}
	return n
}

// ahead tells how many bytes stand ahead of a place, if it may be one.
func ahead(at int) int {
	if at < 1 {
		panic(refused)
	}
	return at - 1
}
