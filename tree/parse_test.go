package tree

import (
	"math/rand"
	"strings"
	"testing"

	"foolscap/api"
	"foolscap/lex"
)

const unit = 1000000

// P8.2: the chapter's examples.
func TestExamples(t *testing.T) {
	n := func(i int) api.Node { return number(i * unit) }
	reads(t, "1+2*3", bin("+", n(1), bin("*", n(2), n(3))))
	reads(t, "1-(2-3)", bin("-", n(1), bin("-", n(2), n(3))))
	prints(t, bin("-", n(1), bin("-", n(2), n(3))), "1-(2-3)")
	reads(t, "(1-2)-3", bin("-", bin("-", n(1), n(2)), n(3)))
	prints(t, bin("-", bin("-", n(1), n(2)), n(3)), "1-2-3")
	reads(t, "--1", neg(neg(n(1))))
	reads(t, "-(1+2)*3", bin("*", neg(bin("+", n(1), n(2))), n(3)))
	reads(t, "A1:B2", reach(at(1, 1), at(2, 2)))
	reads(t, "sum( A1 )", call("SUM", one(at(1, 1))))
	prints(t, call("SUM", one(at(1, 1))), "SUM(A1)")
	refuses(t, "1+", 2, api.ErrSyntax)
	refuses(t, "", 0, api.ErrSyntax)
}

// P8.2: how the kinds are numbered.
func TestKinds(t *testing.T) {
	for s, want := range map[string]api.NodeKind{"1": 1, `"a"`: 1, "true": 1, "#REF!": 1, "A1": 2, "A1:A1": 3, "-1": 4, "1+1": 5, "F()": 6} {
		if n, _, e := Parse(s); e != api.OK || n.Kind != want {
			t.Errorf("Parse(%q) = %v, %d, want the kind %d", s, n, e, want)
		}
	}
}

// P8.2
func TestReadSingles(t *testing.T) {
	for s, want := range map[string]api.Node{
		"0": number(0), "007.50": number(7500000), "0.000001": number(1), "1000000000000": number(1000000000000000000), `""`: text(""), `"a""b"`: text(`a"b`), `"` + strings.Repeat("x", 255) + `"`: text(strings.Repeat("x", 255)),
		"true": truth(true), "FALSE": truth(false), "#DIV/0!": fault(api.Div), "#VALUE!": fault(api.Wrong), "#REF!": fault(api.Ref), "#NAME?": fault(api.Name), "#NUM!": fault(api.Range), "#N/A": fault(api.NA), "#CYCLE!": fault(api.Cycle),
		"a1": one(at(1, 1)), "$a1": one(fixed(at(1, 1), false, true)), "a$1": one(fixed(at(1, 1), true, false)), "$xfd$1048576": one(fixed(at(1048576, 16384), true, true)),
		"B5:A2": reach(at(5, 2), at(2, 1)), "$b$5:a2": reach(fixed(at(5, 2), true, true), at(2, 1)), "a1 : a$1": reach(at(1, 1), fixed(at(1, 1), true, false)), "A1: B2": reach(at(1, 1), at(2, 2)),
		"f()": call("F"), "F( )": call("F"), "true()": call("TRUE"), "a1()": call("A1"), "f(1)": call("F", number(unit)), "f((1))": call("F", number(unit)), "f(g())": call("F", call("G")), "f(g(),g(h(1)))": call("F", call("G"), call("G", call("H", number(unit)))), "a.b_9(A1:B2,-1)": call("A.B_9", reach(at(1, 1), at(2, 2)), neg(number(unit))), "abcdefghijklmnopqrst(1,2)": call("ABCDEFGHIJKLMNOPQRST", number(unit), number(2*unit)),
		"-1": neg(number(unit)), "-A1:B2": neg(reach(at(1, 1), at(2, 2))), "-f(-1)": neg(call("F", neg(number(unit)))), "---1": neg(neg(neg(number(unit)))), "-(1)": neg(number(unit)), "-(-(1))": neg(neg(number(unit))), "-true": neg(truth(true)), "- #N/A": neg(fault(api.NA)),
		`"a"&"b"`: bin("&", text("a"), text("b")), "#N/A/2": bin("/", fault(api.NA), number(2*unit)), "1--2": bin("-", number(unit), neg(number(2*unit))), "A1:B2+C3:D4": bin("+", reach(at(1, 1), at(2, 2)), reach(at(3, 3), at(4, 4))),
		"1<-2": bin("<", number(unit), neg(number(2*unit))), "1< >2": {}, "1<>2": bin("<>", number(unit), number(2*unit)),
	} {
		if want.Kind == 0 {
			refuses(t, s, 3, api.ErrSyntax)
			continue
		}
		reads(t, s, want)
	}
}

// P8.2: each two signs side by side, told by their lines of the chapter, with a - about each formula.
func TestReadTwoSigns(t *testing.T) {
	for i, first := range linesOfChapter {
		for j, second := range linesOfChapter {
			for _, p := range first {
				for _, q := range second {
					for minuses := range 8 {
						kids, s := []api.Node{number(unit), one(at(1, 1)), call("F")}, []string{"1", "A1", "F()"}
						for k := range kids {
							if minuses>>k&1 == 1 {
								kids[k], s[k] = neg(kids[k]), "-"+s[k]
							}
						}
						want := bin(q, bin(p, kids[0], kids[1]), kids[2])
						if j > i {
							want = bin(p, kids[0], bin(q, kids[1], kids[2]))
						}
						reads(t, s[0]+p+s[1]+q+s[2], want)
						reads(t, "("+s[0]+p+s[1]+")"+q+s[2], bin(q, bin(p, kids[0], kids[1]), kids[2]))
						reads(t, s[0]+p+"("+s[1]+q+s[2]+")", bin(p, kids[0], bin(q, kids[1], kids[2])))
						reads(t, "-("+s[0]+p+s[1]+q+s[2]+")", neg(want))
					}
				}
			}
		}
	}
}

// P8.2: what can't go on, and at which byte.
func TestRefusedTexts(t *testing.T) {
	for s, at := range map[string]int{
		"": 0, " ": 1, "     ": 5, strings.Repeat(" ", 1024): 1024,
		"(": 1, "(1": 2, "(1 ": 3, "((1)": 4, "((": 2, "(1+2": 4, "(A1:": 4, "f(": 2, "f(1": 3, "f(1,": 4, "f(1,2": 5, "f(g(1)": 6, "f((1)": 5,
		")": 0, "1)": 1, "()": 1, "(1))": 3, "f())": 3, "1+)": 2, "(1+)": 3, "-)": 1, "f(1))": 4, "A1:)": 3,
		"1+": 2, "1 + ": 4, "-": 1, "--": 2, "1*-": 3, "1<>": 3, "f(1)&": 5, "1+2-": 4,
		"1 2": 2, "1A1": 1, "A1 A1": 3, `1"a"`: 1, `"a" "b"`: 4, "true false": 5, "#N/A#N/A": 4, "1(2)": 1, "(1)(2)": 3, "(1)2": 3, "A1 (1)": 3, "f()1": 3, "1f()": 1, "f()g()": 3, "true (": 5, "LOG10 (1)": 6,
		"1:2": 1, "A1:2": 3, "1:A1": 1, "A1:": 3, ":A1": 0, ":": 0, "A1::A1": 3, "A1:A1:A1": 5, "(A1):A1": 4, "A1:(A1)": 3, "A1:-A1": 3, "A1:f()": 3, "f():A1": 3, `"a":A1`: 3, "true:A1": 4, "A1:true": 3, "#REF!:A1": 5, "A1:#REF!": 3, "-1:A1": 2, "f(1:2)": 3,
		",": 0, "1,2": 1, "A1,": 2, "(1,2)": 2, "f((1,2))": 4, "f(1),2": 4, "-,": 1, "1+,2": 2,
		"f(1,)": 4, "f(,1)": 2, "f(,)": 2, "f(1,,2)": 4, "f(1 , )": 6, "f( , 1)": 3, "f(g(1,),)": 6,
		"+1": 0, "*1": 0, "=1": 0, "1+*2": 2, "1++2": 2, "1*/2": 2, "-+1": 1, "(+1)": 1, "f(+1)": 2, "1==2": 2, "1=<2": 2, "1><2": 2, "<>": 0, "1&&2": 2, "1<=>2": 3, "1<>=2": 3,
	} {
		refuses(t, s, at, api.ErrSyntax)
		if s != "" && len(s) < 1000 {
			refuses(t, "  "+s, at+2, api.ErrSyntax)
			refuses(t, "1+"+s, at+2, api.ErrSyntax)
			refuses(t, "f(1)=g((2))&"+s, at+12, api.ErrSyntax)
		}
	}
}

// P8.2: what lex.Scan refuses goes ahead of all else, even where it stands behind.
func TestRefusedTokens(t *testing.T) {
	for s, e := range map[string]api.Errno{"!": api.ErrSyntax, "1.2.3": api.ErrSyntax, "1000000000001": api.ErrOver, `"`: api.ErrSyntax, `"` + strings.Repeat("x", 256) + `"`: api.ErrBig, "#NA": api.ErrSyntax, "$A(": api.ErrSyntax, "XFE1": api.ErrEdge, "A0": api.ErrSyntax, "SUM": api.ErrSyntax, "SUM (1)": api.ErrSyntax, "\xff": api.ErrSyntax} {
		for _, front := range []string{"", " ", "1+", "1 2 ", ")", "f(1,) ", "A1:2 ", "((((", strings.Repeat("-", 200), "1,"} {
			refuses(t, front+s, len(front), e)
			if s != `"` {
				refuses(t, front+s+" 1 2 ;", len(front), e)
			}
		}
	}
	for _, s := range []string{strings.Repeat(" ", 1025), "1" + strings.Repeat(" ", 1024), strings.Repeat("1 ", 600), strings.Repeat("-", 1025), strings.Repeat("!", 2000)} {
		refuses(t, s, 0, api.ErrBig)
	}
}

// P8.2: depths of 40 and of 41; what can't go on is told ahead of them.
func TestReadDeep(t *testing.T) {
	deepTexts := map[string]func(depth int) string{
		"-":    func(d int) string { return strings.Repeat("-", d-1) + "1" },
		"+":    func(d int) string { return "1" + strings.Repeat("+1", d-1) },
		"=(":   func(d int) string { return strings.Repeat("1=(", d-1) + "1" + strings.Repeat(")", d-1) },
		"call": func(d int) string { return strings.Repeat("f(", d-1) + "A1" + strings.Repeat(")", d-1) },
		"end":  func(d int) string { return strings.Repeat("f(", d-1) + "g()" + strings.Repeat(")", d-1) },
	}
	for how, of := range deepTexts {
		for _, d := range []int{1, 2, 39, 40, 41, 42, 159, 160, 161, 162, 200} {
			s := of(d)
			if d > 40 {
				refuses(t, s, 0, api.ErrDeep)
				refuses(t, " ( "+s+" )", 0, api.ErrDeep)
			} else if n, at, e := Parse(s); wantDepth(n) != d || at != 0 || e != api.OK {
				t.Errorf("Parse of %d by %s = %v, %d, %d", d, how, n, at, e)
			}
			refuses(t, s+")", len(s), api.ErrSyntax)
			refuses(t, s+"+", len(s)+1, api.ErrSyntax)
		}
	}
	refuses(t, strings.Repeat("-", 1023)+"1", 0, api.ErrDeep)
	refuses(t, strings.Repeat("-", 1024), 1024, api.ErrSyntax)
	refuses(t, "1"+strings.Repeat("+1", 511), 0, api.ErrDeep)
	refuses(t, strings.Repeat("f(", 341)+strings.Repeat(")", 341), 0, api.ErrDeep)
}

// P8.2: brackets are no depth.
func TestReadBrackets(t *testing.T) {
	for _, many := range []int{1, 2, 39, 40, 41, 300, 511} {
		open, close := strings.Repeat("(", many), strings.Repeat(")", many)
		reads(t, open+"7"+close, number(7*unit))
		if many < 300 {
			reads(t, "-"+open+"-"+open+"A1"+close+close, neg(neg(one(at(1, 1)))))
			reads(t, open+"1"+close+"+"+open+"2"+close, bin("+", number(unit), number(2*unit)))
			reads(t, open+"f("+open+"1"+close+","+open+"2"+close+")"+close, call("F", number(unit), number(2*unit)))
		}
		refuses(t, open+"7"+close[1:], 2*many, api.ErrSyntax)
		refuses(t, open+"7"+close+")", 2*many+1, api.ErrSyntax)
		refuses(t, open+close, many, api.ErrSyntax)
	}
	refuses(t, strings.Repeat("(", 1024), 1024, api.ErrSyntax)
	refuses(t, strings.Repeat("(", 512)+"7"+strings.Repeat(")", 512), 0, api.ErrBig)
}

// P8.2: all rows of up to five tokens.
func TestAllShortRows(t *testing.T) {
	last := []string{""}
	right := 0
	for range 5 {
		var longer []string
		for _, front := range last {
			for _, p := range pieces() {
				longer = append(longer, front+p)
			}
		}
		for _, s := range longer {
			want := wantParse(s)
			if got := asResult(Parse(s)); !sameResult(got, want) {
				t.Fatalf("Parse(%q) = %v, want %v", s, got, want)
			}
			if want.e == api.OK {
				right++
			}
		}
		last = longer
	}
	if right < 500 {
		t.Errorf("%d rows were right", right)
	}
}

// scatteredText is the text of a formula, with some of it left out, put in or turned round.
func scatteredText(r *rand.Rand) string {
	s := wantPrint(anyNode(r, 1+r.Intn(5)))
	for range r.Intn(4) {
		from := r.Intn(len(s) + 1)
		to := min(len(s), from+r.Intn(3))
		more := append(pieces(), " ", "  ", ";", "2", "b$2", `"x"`, "<>", "<", "/", "true", "#REF!", "g(1,", "$")
		s = s[:from] + more[r.Intn(len(more))] + s[to:]
	}
	return s
}

// P8.2
func TestScatteredTexts(t *testing.T) {
	r := rand.New(rand.NewSource(2))
	right, wrong := 0, 0
	for range 40000 {
		s := scatteredText(r)
		want := wantParse(s)
		if got := asResult(Parse(s)); !sameResult(got, want) {
			t.Errorf("Parse(%q) = %v, want %v", s, got, want)
		}
		if want.e == api.OK {
			right++
		} else {
			wrong++
		}
	}
	if right < 1000 || wrong < 1000 {
		t.Errorf("%d texts were right, %d wrong", right, wrong)
	}
}

// P8.2: what stands ahead of the token that can't go on can: with a cell behind it, perhaps, and brackets closed, it is read.
func TestWhatGoesOn(t *testing.T) {
	r := rand.New(rand.NewSource(3))
	many := 0
	for range 10000 {
		s := scatteredText(r)
		_, at, e := Parse(s)
		if _, _, no := lex.Scan(s); no != api.OK || e != api.ErrSyntax {
			continue
		}
		many++
		found := false
		for close := range 1 + strings.Count(s[:at], "(") {
			for _, more := range []string{"", " A1"} {
				_, _, e := Parse(s[:at] + more + strings.Repeat(")", close))
				found = found || e == api.OK
			}
		}
		if !found {
			t.Errorf("Parse(%q) is refused at %d, but nothing that begins so is read", s, at)
		}
	}
	if many < 1000 {
		t.Errorf("%d texts were wrong", many)
	}
}
