package dates

import (
	"math/rand"
	"strings"
	"testing"

	"foolscap/api"
)

// P11.5
func TestPrint(t *testing.T) {
	for serial, want := range map[int]string{1: "1900-01-01", 2: "1900-01-02", 9: "1900-01-09", 10: "1900-01-10", 59: "1900-02-28", 60: "1900-03-01", 365: "1900-12-31", 366: "1901-01-01", 36525: "2000-01-01", 36584: "2000-02-29", lastDay - 1: "9999-12-30", lastDay: "9999-12-31"} {
		if got := asText(Print(serial)); got != (textResult{s: want}) {
			t.Errorf("Print(%d) = %v, want %s", serial, got, want)
		}
	}
	for _, serial := range wrongDays() {
		if got := asText(Print(serial)); got != (textResult{e: api.ErrArg}) {
			t.Errorf("Print(%d) = %v, want ErrArg", serial, got)
		}
	}
}

// P11.5
func TestParse(t *testing.T) {
	for s, want := range map[string]int{"1900-01-01": 1, "1900-01-02": 2, "1900-02-28": 59, "1900-03-01": 60, "1900-12-31": 365, "1901-01-01": 366, "2000-01-01": 36525, "2000-02-29": 36584, "2000-03-01": 36585, "9999-12-30": lastDay - 1, "9999-12-31": lastDay} {
		if got := asInt(Parse(s)); got != right(want) {
			t.Errorf("Parse(%q) = %v, want %d", s, got, want)
		}
	}
}

// P11.5: texts that are written as days are, of which there are none, though counting on would lead to one.
func TestParseOfNoSuchDays(t *testing.T) {
	for _, s := range []string{
		"2023-02-29", "2100-02-29", "1900-02-29", "2200-02-29", "9999-02-29", "2000-02-30", "2024-02-30", "2400-02-30", "2023-02-30", "2023-02-31",
		"2024-01-32", "2024-03-32", "2024-04-31", "2024-05-32", "2024-06-31", "2024-07-32", "2024-08-32", "2024-09-31", "2024-10-32", "2024-11-31", "2024-12-32", "2024-01-99",
		"2024-00-01", "2024-13-01", "2024-00-00", "2024-01-00", "2024-02-00", "2024-12-00", "2024-13-00", "2024-99-99", "2024-99-01", "2000-13-01", "2024-00-31", "1901-00-01",
		"1899-12-31", "1899-12-32", "1899-13-01", "1899-01-01", "1899-12-30", "1900-00-31", "1900-00-32", "1900-01-00", "1000-01-01", "0000-01-01", "0000-00-00", "0001-01-01", "0400-02-29", "1600-02-29", "0000-02-29", "1896-02-29", "0999-12-31",
		"9999-12-32", "9999-13-01", "9999-13-00", "9999-99-99", "9999-00-99",
	} {
		if got := asInt(Parse(s)); got != wrong(api.ErrOver) {
			t.Errorf("Parse(%q) = %v, want ErrOver", s, got)
		}
	}
}

// P11.5: what is not written as a day is, is ErrSyntax, though there would be no such day either.
func TestParseOfOtherTexts(t *testing.T) {
	for _, s := range []string{
		"", " ", "-", "--", "0", "2", "2000", "2000-", "2000-01", "2000-01-", "2000-01-0", "2000-01-1", "2000-1-01", "2000-1-1", "200-01-01", "2000-01-011", "2000-001-01", "02000-01-01", "20000-01-01", "10000-01-01", "99999-12-31", "2000-01-01 ", " 2000-01-01", " 2000-1-01", "2000-01-01\n", "2000-01-01\x00", "\x002000-01-01", "2000-01-01-", "2000-01-01T00:00",
		"-2000-01-01", "+2000-01-01", "-200-01-01", "+200-01-01", " 200-01-01", "2000--1-01", "2000-+1-01", "2000- 1-01", "2000-01--1", "2000-01-+1", "2000-01- 1", "2000-1 -01", "2000-01-1 ", "200 -01-01", "2 00-01-01",
		"2000/01/01", "2000.01.01", "2000-01/01", "2000/01-01", "2000:01:01", "20000101", "2000 01 01", "2000-01 01", "2000_01_01", "01-01-2000", "01.01.2000", "2000+01+01", "2000001001", "2000-01001", "2000001-01", "----------", "0000000000",
		"200a-01-01", "2000-0a-01", "2000-01-0a", "x000-01-01", "2000-Ja-01", "0x00-01-01", "2e03-01-01", "2_00-01-01", "2000-1.-01", "2000-13-1", "1899-1-1", "2023-02-29 ", "abcd-ef-gh",
		"٢٠٠٠-٠١-٠١", "２０００-０１-０１", "2000-01-٠", "2000-٠-01", "٢٠-01-01", "2000‐01‐01", "2000–01–01", "2000−01−01", "2000-01-\xb2\xb3", "200\xff-01-01", "2000\xad01\xad01", "²-00-01-01",
		strings.Repeat("2000-01-01", 2), strings.Repeat("0", 100000), strings.Repeat("2000-01-01", 10000),
	} {
		if got := asInt(Parse(s)); got != wrong(api.ErrSyntax) {
			t.Errorf("Parse(%q) = %v, want ErrSyntax", s, got)
		}
	}
}

// asksParse holds one answer of Parse against the calendar's, and tells it.
func asksParse(t *testing.T, c calendar, s string) intResult {
	t.Helper()
	got := asInt(Parse(s))
	if want := c.parse(s); got != want {
		t.Errorf("Parse(%q) = %v, want %v", s, got, want)
	}
	return got
}

// P11.5: every byte in the stead of each byte of a day's text, and ahead of each, and behind the last; and each byte left out.
func TestParseOfAllBytes(t *testing.T) {
	c := calendarOf()
	for _, s := range []string{"2000-01-01", "1900-01-01", "9999-12-31", "2024-02-29", "1899-12-31", "2023-11-30"} {
		for i := range len(s) + 1 {
			behind := s[min(i+1, len(s)):]
			asksParse(t, c, s[:i]+behind)
			for b := range 256 {
				one := string([]byte{byte(b)})
				asksParse(t, c, s[:i]+one+behind)
				asksParse(t, c, s[:i]+one+s[i:])
			}
		}
	}
}

// P11.5: of each year that four digits write, each month and day that two digits write.
func TestParseOfAllDigits(t *testing.T) {
	c := calendarOf()
	for _, year := range []int{0, 1, 4, 400, 1600, 1896, 1899, 1900, 1901, 1904, 1999, 2000, 2023, 2024, 2100, 2400, 9996, 9998, 9999} {
		for month := range 100 {
			for day := range 100 {
				asksParse(t, c, written(year, month, day))
			}
		}
	}
	for year := range 10000 {
		for month := range 14 {
			for _, day := range []int{0, 1, 28, 29, 30, 31, 32} {
				asksParse(t, c, written(year, month, day))
			}
		}
	}
}

// P11.5
func TestParseOfScatteredTexts(t *testing.T) {
	c, r := calendarOf(), rand.New(rand.NewSource(3))
	seen := map[api.Errno]int{}
	for range 200000 {
		s := []byte(written(1850+r.Intn(8150), r.Intn(15), r.Intn(34)))
		if r.Intn(2) == 0 {
			s[r.Intn(len(s))] = "0123456789- +/x"[r.Intn(15)]
		}
		seen[asksParse(t, c, string(s)).e]++
	}
	if seen[api.OK] < 50000 || seen[api.ErrOver] < 10000 || seen[api.ErrSyntax] < 10000 {
		t.Errorf("seen: %v", seen)
	}
}
