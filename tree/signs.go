package tree

// The signs that are read and written by themselves; what else binds two formulas is told by binding alone.
const (
	minus   = "-"
	opening = "("
	closing = ")"
	comma   = ","
	colon   = ":"
)

// How tightly the signs between two formulas bind goes from loosest on; tightest is above all of them.
const (
	loosest  = 1
	tightest = 5
)

// binding tells how tightly a sign binds the formulas on both its sides, 0 if it binds none.
func binding(sign string) int {
	switch sign {
	case "=", "<>", "<", ">", "<=", ">=":
		return loosest
	case "&":
		return 2
	case "+", minus:
		return 3
	case "*", "/":
		return 4
	}
	return 0
}
