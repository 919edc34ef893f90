package tree

import (
	"math/rand"
	"strings"
	"testing"

	"foolscap/api"
)

// P8.3: a node of each kind by itself, each value, each cell, and a - of each.
func TestPrintSingles(t *testing.T) {
	for _, n := range append(append(kinds(), valuesOfNodes()...), cellsOfNodes()...) {
		prints(t, n, wantPrint(n))
		prints(t, neg(n), wantPrint(neg(n)))
		prints(t, call("F", n), "F("+wantPrint(n)+")")
	}
	for want, n := range map[string]api.Node{
		"0": number(0), "0.000001": number(1), "7.5": number(7500000), "1": number(unit), "1000000000000": number(1000000000000000000), `""`: text(""), `"a""b"`: text(`a"b`), `""""`: text(`"`), `"TRUE"`: text("TRUE"), "TRUE": truth(true), "FALSE": truth(false), "#DIV/0!": fault(api.Div), "#NAME?": fault(api.Name), "#CYCLE!": fault(api.Cycle),
		"A1": one(at(1, 1)), "$A1": one(fixed(at(1, 1), false, true)), "A$1": one(fixed(at(1, 1), true, false)), "$XFD$1048576": one(fixed(at(1048576, 16384), true, true)), "B5:A2": reach(at(5, 2), at(2, 1)), "$A1:A$1": reach(fixed(at(1, 1), false, true), fixed(at(1, 1), true, false)),
		"F()": call("F"), "F(1)": call("F", number(unit)), "F(1,A1,-1)": call("F", number(unit), one(at(1, 1)), neg(number(unit))), "F(G(H()))": call("F", call("G", call("H"))), "F(1+2,1=2)": call("F", bin("+", number(unit), number(2*unit)), bin("=", number(unit), number(2*unit))), "ABCDEFGHIJKLMNOPQRST()": call("ABCDEFGHIJKLMNOPQRST"),
		"-1": neg(number(unit)), "--1": neg(neg(number(unit))), "-(1+2)": neg(bin("+", number(unit), number(2*unit))), "-F(1+2)": neg(call("F", bin("+", number(unit), number(2*unit)))), "-A1:B2": neg(reach(at(1, 1), at(2, 2))),
		"#N/A/2": bin("/", fault(api.NA), number(2*unit)), `"a"&"b"`: bin("&", text("a"), text("b")), "1<-2": bin("<", number(unit), neg(number(2*unit))), "-1*2": bin("*", neg(number(unit)), number(2*unit)), "-(1*2)": neg(bin("*", number(unit), number(2*unit))),
	} {
		prints(t, n, want)
	}
}

// P8.3: each two signs, one as the left kid of the other one and as the right one, with a - about either and about the whole.
func TestPrintTwoSigns(t *testing.T) {
	a, b, c := number(unit), one(at(2, 2)), call("F")
	maybe := func(yes bool, n api.Node) api.Node {
		if yes {
			return neg(n)
		}
		return n
	}
	for i, first := range linesOfChapter {
		for j, second := range linesOfChapter {
			for _, p := range first {
				for _, q := range second {
					for minuses := range 4 {
						inner := maybe(minuses&1 == 1, bin(q, a, b))
						for _, n := range []api.Node{bin(p, inner, c), bin(p, c, inner), bin(p, inner, inner)} {
							whole := maybe(minuses&2 == 2, n)
							prints(t, whole, wantPrint(whole))
							reads(t, wantPrint(whole), whole)
						}
					}
					left, right := "1"+q+"B2"+p+"F()", "F()"+p+"1"+q+"B2"
					if j < i {
						left = "(1" + q + "B2)" + p + "F()"
					}
					if j <= i {
						right = "F()" + p + "(1" + q + "B2)"
					}
					prints(t, bin(p, bin(q, a, b), c), left)
					prints(t, bin(p, c, bin(q, a, b)), right)
					prints(t, neg(bin(p, bin(q, a, b), c)), "-("+left+")")
				}
			}
		}
	}
}

// P8.3: texts of 1023 bytes and of 1024, and far longer ones.
func TestPrintLengths(t *testing.T) {
	ones := func(name string, many int) api.Node {
		n := call(name)
		for range many {
			n.Kids = append(n.Kids, number(unit))
		}
		return n
	}
	prints(t, ones("FF", 510), "FF("+strings.Repeat("1,", 509)+"1)")
	prints(t, neg(ones("F", 510)), "-F("+strings.Repeat("1,", 509)+"1)")
	printsNot(t, ones("F", 511), api.ErrBig)
	printsNot(t, ones("FF", 511), api.ErrBig)
	printsNot(t, ones("F", 4095), api.ErrBig)
	quotes, long := strings.Repeat(`"`, 255), strings.Repeat("x", 255)
	prints(t, bin("&", text(quotes), text(quotes[:254])), `"`+quotes+quotes+`"&"`+quotes[1:]+quotes[1:]+`"`)
	printsNot(t, bin("&", text(quotes), text(quotes)), api.ErrBig)
	prints(t, bin("&", text(quotes), bin("+", text(quotes[:253]), number(0))), `"`+quotes+quotes+`"&"`+quotes[2:]+quotes[2:]+`"+0`)
	printsNot(t, bin("&", text(quotes), bin("+", text(quotes[:253]), number(10*unit))), api.ErrBig)
	three := bin("&", bin("&", text(long), text(long)), text(long))
	prints(t, bin("&", three, text(long[:247])), `"`+long+`"&"`+long+`"&"`+long+`"&"`+long[:247]+`"`)
	printsNot(t, bin("&", three, text(long[:248])), api.ErrBig)
	// Brackets count.
	prints(t, bin("&", three, bin("&", text(long[:242]), text(""))), wantPrint(three)+`&("`+long[:242]+`"&"")`)
	printsNot(t, bin("&", three, bin("&", text(long[:243]), text(""))), api.ErrBig)
	huge := call("F")
	for range 4095 {
		huge.Kids = append(huge.Kids, text(quotes))
	}
	printsNot(t, huge, api.ErrBig)
	// Check's error goes ahead.
	huge.Kids = append(huge.Kids, number(1))
	printsNot(t, huge, api.ErrBig)
	printsNot(t, chain(41, huge, neg), api.ErrBig)
	printsNot(t, chain(41, ones("F", 600), neg), api.ErrDeep)
	wrong := ones("F", 600)
	wrong.Kids[599] = number(-1)
	printsNot(t, wrong, api.ErrArg)
}

// P8.3: brackets are left out only where nothing else is read then.
func TestPrintScattered(t *testing.T) {
	r := rand.New(rand.NewSource(4))
	for range 20000 {
		n := anyNode(r, 1+r.Intn(5))
		if len(wantPrint(n)) < 1000 {
			prints(t, n, wantPrint(n))
		}
	}
}

// pairs tells where brackets open that are no call's, and where they close.
func pairs(s string) map[int]int {
	out := map[int]int{}
	var open []int
	quoted := false
	for i := range len(s) {
		switch c := s[i]; {
		case c == '"':
			quoted = !quoted
		case quoted:
		case c == '(':
			open = append(open, i)
		case c == ')':
			from := open[len(open)-1]
			open = open[:len(open)-1]
			if from == 0 || strings.IndexByte("ABCDEFGHIJKLMNOPQRSTUVWXYZ0123456789._", s[from-1]) < 0 {
				out[from] = i
			}
		}
	}
	return out
}

// P8.3: without any pair of brackets another formula would be read.
func TestNoBracketsInVain(t *testing.T) {
	r := rand.New(rand.NewSource(5))
	many := 0
	for range 10000 {
		n := anyNode(r, 2+r.Intn(6))
		s, e := Print(n)
		if e != api.OK {
			continue
		}
		for from, to := range pairs(s) {
			many++
			without := s[:from] + s[from+1:to] + s[to+1:]
			if got, _, e := Parse(without); e == api.OK && same(got, n) {
				t.Errorf("%q is printed, but %q is enough", s, without)
			}
		}
		if strings.Contains(strings.ReplaceAll(s, `" "`, ""), " ") {
			t.Errorf("%q has a blank", s)
		}
	}
	if many < 1000 {
		t.Errorf("%d brackets were left out", many)
	}
}
