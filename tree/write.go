package tree

import (
	"strings"

	"foolscap/api"
	"foolscap/num"
	"foolscap/place"
	"foolscap/value"
)

const quote = `"`

// write writes a right node.
func write(text *strings.Builder, n *api.Node) {
	switch n.Kind {
	case api.NValue:
		text.WriteString(constant(n.Value))
	case api.NCell:
		text.WriteString(cell(n.Cell))
	case api.NRange:
		text.WriteString(cell(n.Cell) + colon + cell(n.To))
	case api.NNeg:
		text.WriteString(minus)
		writeKid(text, &n.Kids[0], tightest)
	case api.NBin:
		binds := binding(n.S)
		writeKid(text, &n.Kids[0], binds)
		text.WriteString(n.S)
		// Signs that bind alike go from the left.
		writeKid(text, &n.Kids[1], binds+1)
	case api.NCall:
		writeCall(text, n)
	}
}

// writeKid writes a kid where what binds less tightly than least is read otherwise without brackets.
func writeKid(text *strings.Builder, kid *api.Node, least int) {
	if kid.Kind != api.NBin || binding(kid.S) >= least {
		write(text, kid)
		return
	}
	text.WriteString(opening)
	write(text, kid)
	text.WriteString(closing)
}

func writeCall(text *strings.Builder, n *api.Node) {
	text.WriteString(n.S + opening)
	for i := range n.Kids {
		if i > 0 {
			text.WriteString(comma)
		}
		write(text, &n.Kids[i])
	}
	text.WriteString(closing)
}

// constant writes a value. A right one is never refused.
func constant(v api.Value) string {
	switch v.Kind {
	case api.Num:
		s, _ := num.Print(v.N)
		return s
	case api.Text:
		return quote + strings.ReplaceAll(v.S, quote, quote+quote) + quote
	}
	s, _ := value.Show(v)
	return s
}

// cell writes a cell. A right one is never refused.
func cell(c api.Cell) string {
	s, _ := place.Print(c)
	return s
}
