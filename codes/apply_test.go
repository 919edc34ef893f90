package codes

import (
	"math/rand"
	"strings"
	"testing"

	"foolscap/api"
)

type applyCase struct {
	code string
	v    api.Value
	want textResult
}

func checkApply(t *testing.T, cases []applyCase) {
	t.Helper()
	for _, c := range cases {
		if got := asText(Apply(c.code, c.v)); got != c.want {
			t.Errorf("Apply(%q, %v) = %v, want %v", c.code, c.v, got, c.want)
		}
		asksApply(t, c.code, c.v)
	}
}

// asksApply holds one answer of Apply against the second telling, and tells it.
func asksApply(t *testing.T, code string, v api.Value) textResult {
	t.Helper()
	got := asText(Apply(code, v))
	if want := wantApply(code, v); got != want {
		t.Errorf("Apply(%q, %v) = %v, want %v", code, v, got, want)
	}
	return got
}

// P12.2: the chapter's examples.
func TestApplyExamples(t *testing.T) {
	checkApply(t, []applyCase{
		{"0.00", numberOf(1005000), right("1.00")}, {"0.00", numberOf(-2000000), right("-2.00")}, {"#,##0", numberOf(1234567500000), right("1,234,568")}, {"0%;(0%)", numberOf(-500000), right("(50%)")},
		{"#.##", numberOf(500000), right(".5")}, {"#.##", numberOf(0), right(".")}, {"0.0#", numberOf(1000000), right("1.0")}, {"d/m/yy", numberOf(45000000000), right("16/3/23")},
		{"\"n: \"@", textOf("x"), right("n: x")}, {"\"n: \"@", numberOf(7000000), right("7")}, {"0;-0;\"zero\"", numberOf(0), right("zero")}, {"#,##0.00", numberOf(1234500000), right("1,234.50")},
	})
}

// P12.2: the digits of the whole part.
func TestApplyWholeDigits(t *testing.T) {
	checkApply(t, []applyCase{
		{"0", numberOf(0), right("0")}, {"#", numberOf(0), right("")}, {"##", numberOf(0), right("")}, {"#,###", numberOf(0), right("")}, {"00", numberOf(0), right("00")}, {"#0", numberOf(0), right("0")}, {"0,000", numberOf(0), right("0,000")}, {"0,0", numberOf(0), right("00")}, {"#.", numberOf(0), right(".")}, {"0.", numberOf(0), right("0.")},
		{"0", numberOf(7000000), right("7")}, {"#", numberOf(7000000), right("7")}, {"000", numberOf(7000000), right("007")}, {"###", numberOf(7000000), right("7")}, {"##00", numberOf(7000000), right("07")}, {"0", numberOf(1234000000), right("1234")}, {"#", numberOf(1234000000), right("1234")}, {"0.", numberOf(5000000), right("5.")}, {"000", numberOf(1000000000), right("1000")},
		{"#,##0", numberOf(999000000), right("999")}, {"#,##0", numberOf(1000000000), right("1,000")}, {"#,##0", numberOf(999999000000), right("999,999")}, {"#,##0", numberOf(1000000000000), right("1,000,000")}, {"#,##0", numberOf(most), right("1,000,000,000,000")}, {"#,##0", numberOf(-most), right("-1,000,000,000,000")}, {"#,##0", numberOf(0), right("0")},
		{"0,000", numberOf(5000000), right("0,005")}, {"0000000,0", numberOf(5000000), right("00,000,005")}, {"0,0", numberOf(5000000), right("05")}, {"#,#", numberOf(1234567000000), right("1,234,567")}, {"0,0", numberOf(1234567000000), right("1,234,567")}, {"#,0,0", numberOf(123000000), right("123")}, {"000,000,000", numberOf(1000000), right("000,000,001")}, {"#,##0.00", numberOf(12345678901234), right("12,345,678.90")},
		{strings.Repeat("0", 60), numberOf(1000000), right(strings.Repeat("0", 59) + "1")}, {"0," + strings.Repeat("0", 58), numberOf(0), right("00" + strings.Repeat(",000", 19))},
		{"0", numberOf(9500000), right("10")}, {"0", numberOf(99500000), right("100")}, {"#,##0", numberOf(999500000), right("1,000")}, {"#,##0", numberOf(999499999), right("999")}, {"#,##0", numberOf(999999500000), right("1,000,000")}, {"00", numberOf(99500000), right("100")}, {"0.0", numberOf(9950000), right("10.0")}, {"0.00", numberOf(999995000), right("1000.00")}, {"#", numberOf(999999), right("1")}, {"#.#", numberOf(960000), right("1.")},
	})
}

// P12.2: the digits of the fraction, and what lies in the middle.
func TestApplyFractions(t *testing.T) {
	checkApply(t, []applyCase{
		{"0", numberOf(500000), right("0")}, {"0", numberOf(1500000), right("2")}, {"0", numberOf(2500000), right("2")}, {"0", numberOf(3500000), right("4")}, {"0", numberOf(500001), right("1")}, {"0", numberOf(499999), right("0")}, {"#", numberOf(500000), right("")}, {"#", numberOf(400000), right("")}, {"0.0", numberOf(50000), right("0.0")}, {"0.0", numberOf(50001), right("0.1")}, {"0.0", numberOf(150000), right("0.2")}, {"0.0", numberOf(250000), right("0.2")}, {"0.00", numberOf(1015000), right("1.02")}, {"0.00", numberOf(1025000), right("1.02")}, {"0.00000", numberOf(5), right("0.00000")}, {"0.00000", numberOf(15), right("0.00002")}, {"0.00000", numberOf(6), right("0.00001")},
		{"0.00", numberOf(0), right("0.00")}, {"0.##", numberOf(0), right("0.")}, {"0.0#", numberOf(0), right("0.0")}, {"0.0#", numberOf(1120000), right("1.12")}, {"0.0#", numberOf(1100000), right("1.1")}, {"0.##", numberOf(1100000), right("1.1")}, {"0.##", numberOf(1010000), right("1.01")}, {"0.##", numberOf(1001000), right("1.")}, {"#.##", numberOf(20000), right(".02")}, {"0.000###", numberOf(1100100), right("1.1001")}, {"0.000###", numberOf(1000010), right("1.00001")}, {"0.000###", numberOf(1000000), right("1.000")}, {"0.0#", numberOf(1115000), right("1.12")}, {"0.0#", numberOf(1095000), right("1.1")}, {"0.##", numberOf(995000), right("1.")},
		{"0.000000", numberOf(1), right("0.000001")}, {"0.000000", numberOf(1000000), right("1.000000")}, {"0.######", numberOf(1), right("0.000001")}, {"0.######", numberOf(123456), right("0.123456")}, {"0.0000000", numberOf(1), right("0.0000010")}, {"0.0000000#", numberOf(1), right("0.0000010")}, {"0.#######", numberOf(1), right("0.000001")}, {"0.#########", numberOf(100000), right("0.1")}, {"0.0000000##", numberOf(0), right("0.0000000")}, {"0.000####", numberOf(1), right("0.000001")}, {"0.00000##", numberOf(1), right("0.000001")}, {"0.000000##", numberOf(10), right("0.000010")}, {"#." + strings.Repeat("0", 58), numberOf(-1), right("-.000001" + strings.Repeat("0", 52))}, {"#." + strings.Repeat("#", 58), numberOf(10), right(".00001")},
		{"0.00", numberOf(most), right("1000000000000.00")}, {"0.000000", numberOf(-most), right("-1000000000000.000000")}, {"0", numberOf(most - 1), right("1000000000000")}, {"0", numberOf(most - 500000), right("1000000000000")}, {"0", numberOf(most - 500001), right("999999999999")}, {"0.0#####", numberOf(most - 1), right("999999999999.999999")},
	})
}

// P12.2: one section, two and three.
func TestApplySections(t *testing.T) {
	checkApply(t, []applyCase{
		{"0", numberOf(-7000000), right("-7")}, {"-0", numberOf(-7000000), right("--7")}, {"(0)", numberOf(-7000000), right("-(7)")}, {"0", numberOf(-1), right("-0")}, {"#", numberOf(-1), right("-")}, {"0.0", numberOf(-50000), right("-0.0")}, {"$0.00", numberOf(-1500000), right("-$1.50")},
		{"", numberOf(5000000), right("")}, {"", numberOf(-5000000), right("-")}, {"", numberOf(0), right("")}, {"\"x\"", numberOf(5000000), right("x")}, {"\"x\"", numberOf(-1), right("-x")}, {"\\x", numberOf(0), right("x")}, {"\"\"", numberOf(-most), right("-")},
		{"0;(0)", numberOf(7000000), right("7")}, {"0;(0)", numberOf(-7000000), right("(7)")}, {"0;(0)", numberOf(0), right("0")}, {"0;(0)", numberOf(-1), right("(0)")}, {"0;(0)", numberOf(1), right("0")}, {";", numberOf(1), right("")}, {";", numberOf(-1), right("")}, {";0", numberOf(-7000000), right("7")}, {";0", numberOf(7000000), right("")}, {"0;", numberOf(-7000000), right("")}, {"0;\"below\"", numberOf(-1), right("below")},
		{"0;(0);\"zero\"", numberOf(7000000), right("7")}, {"0;(0);\"zero\"", numberOf(-7000000), right("(7)")}, {"0;(0);\"zero\"", numberOf(0), right("zero")}, {"0;(0);\"zero\"", numberOf(1), right("0")}, {"0;(0);\"zero\"", numberOf(-1), right("(0)")}, {"(0);;", numberOf(0), right("")}, {"(0);;", numberOf(-1), right("")}, {"(0);;", numberOf(1000000), right("(1)")}, {";;", numberOf(5), right("")}, {";;0", numberOf(0), right("0")}, {";;#", numberOf(0), right("")}, {"0;0;0.00", numberOf(0), right("0.00")}, {"0;0;0.00", numberOf(1), right("0")},
		{"0;@", numberOf(-1000000), right("-1")}, {"0;@", numberOf(1000000), right("1")}, {"@;0", numberOf(-1000000), right("-1")}, {"@;0", numberOf(0), right("0")}, {"@;0;(0)", numberOf(-1000000), right("(1)")}, {"@;0;(0)", numberOf(0), right("0")}, {"0;@;(0)", numberOf(-1000000), right("(1)")}, {"0;@;(0)", numberOf(1000000), right("1")}, {"0;@;(0)", numberOf(0), right("0")}, {"0;(0);@", numberOf(-1000000), right("(1)")}, {"0;(0);@", numberOf(0), right("0")}, {"@;@;0", numberOf(-1000000), right("-1")}, {"@;0;@", numberOf(-1000000), right("-1")}, {"0;@;@", numberOf(0), right("0")}, {"@;", numberOf(-1000000), right("-")}, {";@", numberOf(-1000000), right("-")}, {";@;", numberOf(-1000000), right("")},
		{"@", numberOf(-7500000), right("-7.5")}, {"@;@", numberOf(1), right("0.000001")}, {"\"x\"@;@;@", numberOf(-7000000), right("-7")}, {"@@", numberOf(0), right("0")},
		{"0\";\"", numberOf(1000000), right("1;")}, {"\\;0", numberOf(-1000000), right("-;1")}, {"0\";\";(0)\\;", numberOf(-1000000), right("(1);")}, {"\"+\"0;\"-\"0;\"0\"", numberOf(1000000), right("+1")},
	})
}

// P12.2: hundreds, and what goes too far by them.
func TestApplyHundreds(t *testing.T) {
	checkApply(t, []applyCase{
		{"0%", numberOf(500000), right("50%")}, {"0%", numberOf(0), right("0%")}, {"0%", numberOf(-500000), right("-50%")}, {"0%", numberOf(1000000), right("100%")}, {"%0", numberOf(1000000), right("%100")}, {"0%%", numberOf(10000), right("100%%")}, {"%0%", numberOf(10000), right("%100%")}, {"%%0", numberOf(10000), right("%%100")}, {"% 0 %", numberOf(1000000), right("% 10000 %")}, {"0.0%", numberOf(12345), right("1.2%")}, {"0.0%", numberOf(12500), right("1.2%")}, {"0%", numberOf(5000), right("0%")}, {"0%", numberOf(15000), right("2%")}, {"0%", numberOf(995000), right("100%")}, {"0.0%", numberOf(999500), right("100.0%")}, {"#%", numberOf(1), right("%")}, {"#,##0%", numberOf(123456000000), right("12,345,600%")}, {"0.00####%%", numberOf(1), right("0.01%%")}, {"0\"%\"", numberOf(500000), right("0%")}, {"0\\%", numberOf(500000), right("0%")}, {"0\"%\"%", numberOf(500000), right("50%%")},
		{"0%", numberOf(most / 100), right("1000000000000%")}, {"0%", numberOf(-most / 100), right("-1000000000000%")}, {"0%", numberOf(most/100 + 1), wrong(api.Range)}, {"0%", numberOf(-most/100 - 1), wrong(api.Range)}, {"0%", numberOf(most/100 - 1), right("1000000000000%")}, {"0%%", numberOf(most / 10000), right("1000000000000%%")}, {"0%%", numberOf(most/10000 + 1), wrong(api.Range)}, {"0%%", numberOf(-most/10000 - 1), wrong(api.Range)}, {"0%%", numberOf(most/100 + 1), wrong(api.Range)}, {"%0%", numberOf(most), wrong(api.Range)}, {"0%", numberOf(most), wrong(api.Range)}, {"0.000000%", numberOf(most/100 - 1), right("999999999999.999900%")}, {"#%", numberOf(-most), wrong(api.Range)},
		{"0;0%", numberOf(most), right("1000000000000")}, {"0;0%", numberOf(-most), wrong(api.Range)}, {"0%;0", numberOf(-most), right("1000000000000")}, {"0%;0", numberOf(most), wrong(api.Range)}, {"0%;0%;0%%", numberOf(0), right("0%%")}, {"\"x\";0%", numberOf(most), right("x")},
	})
}

// P12.2: days, with and without a fraction, and numbers that are none.
func TestApplyDays(t *testing.T) {
	checkApply(t, []applyCase{
		{"yyyy-mm-dd", daysOf(1, 0), right("1900-01-01")}, {"yyyy-mm-dd", daysOf(1, 999999), right("1900-01-01")}, {"yyyy-mm-dd", daysOf(2, 0), right("1900-01-02")}, {"yyyy-mm-dd", daysOf(60, 0), right("1900-03-01")}, {"yyyy-mm-dd", daysOf(59, 999999), right("1900-02-28")}, {"yyyy-mm-dd", daysOf(lastDay-1, 0), right("9999-12-30")}, {"yyyy-mm-dd", daysOf(lastDay-1, 999999), right("9999-12-30")}, {"yyyy-mm-dd", daysOf(lastDay, 0), right("9999-12-31")}, {"yyyy-mm-dd", daysOf(lastDay, 999999), right("9999-12-31")}, {"yyyymmdd", daysOf(45351, 500000), right("20240301")},
		{"yyyy", daysOf(36525, 0), right("2000")}, {"yy", daysOf(36525, 0), right("00")}, {"yy", daysOf(1, 0), right("00")}, {"yy", daysOf(lastDay, 0), right("99")}, {"yy", daysOf(36524+366+366, 0), right("02")}, {"mm", daysOf(1, 0), right("01")}, {"m", daysOf(1, 0), right("1")}, {"mm", daysOf(lastDay, 0), right("12")}, {"m", daysOf(lastDay, 0), right("12")}, {"dd", daysOf(9, 0), right("09")}, {"d", daysOf(9, 0), right("9")}, {"dd", daysOf(10, 0), right("10")}, {"d", daysOf(10, 0), right("10")}, {"d", daysOf(31, 0), right("31")}, {"dm", daysOf(31, 0), right("311")}, {"d d\"d\"\\d", daysOf(3, 0), right("3 3dd")}, {"yyyy\\ mm\\ dd", numberOf(1990000), right("1900 01 01")}, {"(d)", daysOf(1, 0), right("(1)")}, {"mm/dd/yy =", daysOf(45000, 0), right("03/16/23 =")},
		{"yyyy", numberOf(0), wrong(api.Wrong)}, {"yyyy", blank, wrong(api.Wrong)}, {"yyyy", numberOf(1), wrong(api.Wrong)}, {"yyyy", numberOf(999999), wrong(api.Wrong)}, {"yyyy", numberOf(-1), wrong(api.Wrong)}, {"yyyy", numberOf(-1000000), wrong(api.Wrong)}, {"d", daysOf(-45000, 0), wrong(api.Wrong)}, {"d", daysOf(lastDay+1, 0), wrong(api.Wrong)}, {"d", numberOf(most), wrong(api.Wrong)}, {"d", numberOf(-most), wrong(api.Wrong)},
		{"0;yyyy", daysOf(45000, 0), right("45000")}, {"yyyy;0", daysOf(45000, 0), right("2023")}, {"yyyy;0", daysOf(-45000, 0), right("45000")}, {"yyyy;0", numberOf(0), wrong(api.Wrong)}, {"yyyy;0;\"none\"", numberOf(0), right("none")}, {"0;0;yyyy", numberOf(0), wrong(api.Wrong)}, {"0;0;yyyy", numberOf(1000000), right("1")}, {"0;yyyy", daysOf(-45000, 0), wrong(api.Wrong)}, {"0;yyyy", daysOf(-1, 0), wrong(api.Wrong)}, {"yyyy;yyyy", numberOf(-1500000), wrong(api.Wrong)}, {"@;d", daysOf(1, 0), right("1")}, {"d;@", daysOf(-1, 0), wrong(api.Wrong)},
	})
}

// P12.2: texts, truths, blanks and faults, through each kind of section.
func TestApplyOtherKinds(t *testing.T) {
	long := strings.Repeat("x", 255)
	checkApply(t, []applyCase{
		{"", textOf("x"), right("x")}, {"0", textOf("x"), right("x")}, {"0", textOf("7"), right("7")}, {"0.00", textOf("7"), right("7")}, {"yyyy", textOf("x"), right("x")}, {"\"n\"", textOf("x"), right("x")}, {"0;0;0", textOf("-1"), right("-1")}, {"0", textOf(""), right("")}, {"@", textOf(""), right("")}, {"@", textOf("x"), right("x")}, {"@@", textOf("ab"), right("abab")}, {"@\"!\"", textOf("x"), right("x!")}, {"\\@@\"@\"", textOf("x"), right("@x@")}, {" @ ", textOf(""), right("  ")},
		{"0;@\"a\"", textOf("x"), right("xa")}, {"@\"a\";0", textOf("x"), right("xa")}, {"@\"a\";@\"b\"", textOf("x"), right("xa")}, {"0;@\"a\";@\"b\"", textOf("x"), right("xa")}, {"0;d;@\"c\"", textOf("x"), right("xc")}, {"\"\";;@\"c\"", textOf("x"), right("xc")}, {"@", textOf("\xff\x00"), right("\xff\x00")}, {"0;0;\"z\"", textOf("x"), right("x")}, {"0%", textOf("x"), right("x")},
		{"@", textOf(long), right(long)}, {"0", textOf(long), right(long)}, {strings.Repeat("@", 60), textOf(long), right(strings.Repeat(long, 60))},
		{"0", truthOf(true), right("TRUE")}, {"0", truthOf(false), right("FALSE")}, {"", truthOf(true), right("TRUE")}, {"@", truthOf(false), right("FALSE")}, {"@\"!\"", truthOf(true), right("TRUE!")}, {"0;0;\"z\"", truthOf(false), right("FALSE")}, {"d", truthOf(true), right("TRUE")}, {"0%", truthOf(true), right("TRUE")}, {"\"x\"", truthOf(true), right("TRUE")}, {"0;\"t:\"@", truthOf(true), right("t:TRUE")},
		{"0", blank, right("0")}, {"#", blank, right("")}, {"0.00", blank, right("0.00")}, {"", blank, right("")}, {"\"x\"", blank, right("x")}, {"0;(0)", blank, right("0")}, {"0;-0;\"zero\"", blank, right("zero")}, {"0%", blank, right("0%")}, {"@", blank, right("0")}, {"\"n: \"@;@", blank, right("0")}, {"0.0;@", blank, right("0.0")}, {"d", blank, wrong(api.Wrong)},
	})
	for c := api.Div; c <= api.Cycle; c++ {
		for _, code := range append(plainCodes(), otherCodes()...) {
			checkApply(t, []applyCase{{code, faultOf(c), wrong(c)}})
		}
	}
}

// P12.2: a code that is no format goes ahead of a fault's own code.
func TestApplyOfWrongCodes(t *testing.T) {
	codes := append(wrongCodes(), strings.Repeat(" ", 61), strings.Repeat("0", 61), strings.Repeat("@", 61), strings.Repeat("\\x", 31), strings.Repeat("x", 10000))
	for _, code := range codes {
		for _, v := range append(values(), wrongValues()...) {
			if got := asText(Apply(code, v)); got != wrong(api.Wrong) {
				t.Errorf("Apply(%q, %v) = %v, want Wrong", code, v, got)
			}
		}
	}
}

// P12.2
func TestApplyOfWrongValues(t *testing.T) {
	for _, v := range wrongValues() {
		for _, code := range append(plainCodes(), otherCodes()...) {
			if got := asText(Apply(code, v)); got != wrong(api.Wrong) {
				t.Errorf("Apply(%q, %v) = %v, want Wrong", code, v, got)
			}
		}
	}
}

// P12.2: all codes of the tests with all values.
func TestApplyOfAllKinds(t *testing.T) {
	for _, code := range append(plainCodes(), otherCodes()...) {
		for _, v := range values() {
			asksApply(t, code, v)
		}
	}
}

// P12.2: each place of up to six bytes.
func TestApplyOfAllPlaces(t *testing.T) {
	asked := 0
	var longer func(code string)
	longer = func(code string) {
		if wantCheck(code) == api.OK {
			asked++
			for _, n := range numbers() {
				asksApply(t, code, numberOf(n))
			}
		}
		if len(code) == 6 {
			return
		}
		for _, mark := range []string{"0", "#", ",", "."} {
			longer(code + mark)
		}
	}
	longer("")
	if asked < 100 {
		t.Errorf("%d are formats", asked)
	}
}

// P12.2
func TestApplyOfScatteredCodes(t *testing.T) {
	r := rand.New(rand.NewSource(2))
	seen := map[api.Code]int{}
	for range 40000 {
		code := scatteredCode(r)
		for range 5 {
			seen[asksApply(t, code, scatteredValue(r)).c]++
		}
	}
	if seen[api.None] < 50000 || seen[api.Wrong] < 20000 || seen[api.Range] < 500 || seen[api.Cycle] < 500 {
		t.Errorf("seen: %v", seen)
	}
}
