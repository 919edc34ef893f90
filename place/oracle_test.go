package place

import (
	"math"
	"math/big"
	"math/rand"
	"regexp"
	"strings"

	"foolscap/api"
)

// The tests hold the package against a second telling of the chapter's words, which shares no code with it.

const (
	lastRow = 1048576
	lastCol = 16384
	great   = "ABCDEFGHIJKLMNOPQRSTUVWXYZ"
	small   = "abcdefghijklmnopqrstuvwxyz"
)

var (
	lettersForm = regexp.MustCompile(`\A[A-Za-z]{1,3}\z`)
	cellForm    = regexp.MustCompile(`\A(\$?)([A-Za-z]{1,3})(\$?)([1-9][0-9]{0,6})\z`)
)

type lettersResult struct {
	s string
	e api.Errno
}

type intResult struct {
	n int
	e api.Errno
}

type cellResult struct {
	c api.Cell
	e api.Errno
}

type rectResult struct {
	r api.Rect
	e api.Errno
}

type meetResult struct {
	r  api.Rect
	ok bool
}

func asLetters(s string, e api.Errno) lettersResult { return lettersResult{s, e} }
func asInt(n int, e api.Errno) intResult            { return intResult{n, e} }
func asCell(c api.Cell, e api.Errno) cellResult     { return cellResult{c, e} }
func asRect(r api.Rect, e api.Errno) rectResult     { return rectResult{r, e} }
func asMeet(r api.Rect, ok bool) meetResult         { return meetResult{r, ok} }

func at(row, col int) api.At { return api.At{Row: row, Col: col} }
func rect(top, left, bottom, right int) api.Rect {
	return api.Rect{Top: top, Left: left, Bottom: bottom, Right: right}
}
func cell(row, col int, fixRow, fixCol bool) api.Cell {
	return api.Cell{At: at(row, col), FixRow: fixRow, FixCol: fixCol}
}

// allLetters are all texts of one to three great letters, counted through: the first one is that of column 1.
func allLetters() []string {
	var out []string
	last := []string{""}
	for range 3 {
		var longer []string
		for _, front := range last {
			for i := range great {
				longer = append(longer, front+great[i:i+1])
			}
		}
		out, last = append(out, longer...), longer
	}
	return out
}

// columnsByLetters are the columns, those beyond the edge too, of the texts of allLetters.
func columnsByLetters() map[string]int {
	out := map[string]int{}
	for i, s := range allLetters() {
		out[s] = i + 1
	}
	return out
}

// mixtures are great letters with each choice of them made small.
func mixtures(s string) []string {
	out := []string{""}
	for i := range s {
		var longer []string
		for _, front := range out {
			longer = append(longer, front+s[i:i+1], front+small[s[i]-'A':s[i]-'A'+1])
		}
		out = longer
	}
	return out
}

// inGreat turns small letters over one by one.
func inGreat(s string) string {
	out := []byte(s)
	for i, c := range out {
		if j := strings.IndexByte(small, c); j >= 0 {
			out[i] = great[j]
		}
	}
	return string(out)
}

func wantColumn(s string, columns map[string]int) intResult {
	if !lettersForm.MatchString(s) {
		return intResult{e: api.ErrSyntax}
	}
	if n := columns[inGreat(s)]; n <= lastCol {
		return intResult{n: n}
	}
	return intResult{e: api.ErrEdge}
}

func wantParse(s string, columns map[string]int) cellResult {
	m := cellForm.FindStringSubmatch(s)
	if m == nil {
		return cellResult{e: api.ErrSyntax}
	}
	row, _ := new(big.Int).SetString(m[4], 10)
	col := columns[inGreat(m[2])]
	if col > lastCol || row.Cmp(big.NewInt(lastRow)) > 0 {
		return cellResult{e: api.ErrEdge}
	}
	return cellResult{c: cell(int(row.Int64()), col, m[3] == "$", m[1] == "$")}
}

func wantPlace(a api.At) bool {
	return a.Row > 0 && a.Row < lastRow+1 && a.Col > 0 && a.Col < lastCol+1
}

func wantRight(r api.Rect) bool {
	return wantPlace(at(r.Top, r.Left)) && wantPlace(at(r.Bottom, r.Right)) && !(r.Top > r.Bottom) && !(r.Left > r.Right)
}

func wantIn(r api.Rect, a api.At) bool {
	if !wantRight(r) || !wantPlace(a) {
		return false
	}
	return !(a.Row < r.Top || a.Row > r.Bottom || a.Col < r.Left || a.Col > r.Right)
}

func wantArea(r api.Rect) intResult {
	if !wantRight(r) {
		return intResult{e: api.ErrArg}
	}
	rows := new(big.Int).Sub(big.NewInt(int64(r.Bottom)+1), big.NewInt(int64(r.Top)))
	cols := new(big.Int).Sub(big.NewInt(int64(r.Right)+1), big.NewInt(int64(r.Left)))
	return intResult{n: int(rows.Mul(rows, cols).Int64())}
}

// edgeColumns are the columns at which something turns, and those beside them.
func edgeColumns() []int {
	return []int{1, 2, 25, 26, 27, 28, 51, 52, 53, 701, 702, 703, 704, 1378, 1379, lastCol - 1, lastCol}
}

func wrongColumns() []int {
	return []int{0, -1, -2, -26, -lastCol, lastCol + 1, lastCol + 2, 18278, 18279, lastRow, 1 << 31, 1<<32 + 1, -1<<32 + 1, math.MaxInt32, math.MinInt32, math.MaxInt - 1, math.MaxInt, math.MinInt, math.MinInt + 1}
}

func edgeRows() []int {
	return []int{1, 2, 9, 10, 11, 99, 100, 999, 1000, 9999, 10000, 99999, 100000, 999999, 1000000, lastCol, lastCol + 1, lastRow - 1, lastRow}
}

func wrongRows() []int {
	return []int{0, -1, -2, -lastRow, lastRow + 1, lastRow + 2, 9999999, 10000000, 1 << 31, 1<<32 + 1, -1<<32 + 1, math.MaxInt32, math.MinInt32, math.MaxInt - 1, math.MaxInt, math.MinInt, math.MinInt + 1}
}

// edgePlaces are places of edge rows and edge columns.
func edgePlaces() []api.At {
	var out []api.At
	for _, row := range edgeRows() {
		for _, col := range edgeColumns() {
			out = append(out, at(row, col))
		}
	}
	return out
}

// wrongPlaces are none by their row, by their column, or by both.
func wrongPlaces() []api.At {
	var out []api.At
	for _, row := range wrongRows() {
		out = append(out, at(row, 1), at(row, lastCol))
		for _, col := range wrongColumns() {
			out = append(out, at(row, col))
		}
	}
	for _, col := range wrongColumns() {
		out = append(out, at(1, col), at(lastRow, col))
	}
	return out
}

// smallRects are all rectangles, right or not, with sides of a few rows and columns from a first row and column on.
func smallRects(firstRow, firstCol, many int) []api.Rect {
	var out []api.Rect
	for top := range many {
		for left := range many {
			for bottom := range many {
				for right := range many {
					out = append(out, rect(firstRow+top, firstCol+left, firstRow+bottom, firstCol+right))
				}
			}
		}
	}
	return out
}

// wrongRects are not right by one side, whichever it is, or by its corners' order.
func wrongRects() []api.Rect {
	var out []api.Rect
	for _, r := range []api.Rect{rect(1, 1, 1, 1), rect(2, 3, 5, 7), rect(1, 1, lastRow, lastCol), rect(lastRow, lastCol, lastRow, lastCol)} {
		for _, row := range wrongRows() {
			out = append(out, rect(row, r.Left, r.Bottom, r.Right), rect(r.Top, r.Left, row, r.Right), rect(row, r.Left, row, r.Right))
		}
		for _, col := range wrongColumns() {
			out = append(out, rect(r.Top, col, r.Bottom, r.Right), rect(r.Top, r.Left, r.Bottom, col), rect(r.Top, col, r.Bottom, col))
		}
	}
	return append(out,
		api.Rect{}, rect(2, 1, 1, 1), rect(1, 2, 1, 1), rect(2, 2, 1, 1), rect(5, 3, 2, 7), rect(2, 7, 5, 3), rect(5, 7, 2, 3), rect(lastRow, 1, 1, lastCol), rect(1, lastCol, lastRow, 1), rect(lastRow, lastCol, 1, 1), rect(lastRow, lastCol, lastRow-1, lastCol), rect(lastRow, lastCol, lastRow, lastCol-1),
		rect(math.MinInt, math.MinInt, math.MaxInt, math.MaxInt), rect(math.MaxInt, math.MaxInt, math.MinInt, math.MinInt), rect(math.MaxInt, math.MaxInt, math.MaxInt, math.MaxInt), rect(math.MinInt, math.MinInt, math.MinInt, math.MinInt), rect(0, 0, lastRow, lastCol), rect(1, 1, lastRow+1, lastCol+1))
}

// rightRects are of one place, of one row, of one column, of the whole sheet, and in between.
func rightRects() []api.Rect {
	return []api.Rect{
		rect(1, 1, 1, 1), rect(7, 3, 7, 3), rect(lastRow, lastCol, lastRow, lastCol), rect(1, lastCol, 1, lastCol), rect(lastRow, 1, lastRow, 1),
		rect(1, 1, 1, lastCol), rect(lastRow, 1, lastRow, lastCol), rect(5, 1, 5, lastCol), rect(5, 2, 5, 4),
		rect(1, 1, lastRow, 1), rect(1, lastCol, lastRow, lastCol), rect(1, 3, lastRow, 3), rect(4, 3, 6, 3),
		rect(1, 1, lastRow, lastCol), rect(2, 2, lastRow-1, lastCol-1), rect(2, 2, 7, 3), rect(1, 1, 16, 16), rect(lastRow-3, lastCol-3, lastRow, lastCol), rect(20, 1, 20000, 30),
	}
}

// scatteredRects are right ones at random, great and small, by chance with sides at the same rows and columns.
func scatteredRects(seed int64, many int) []api.Rect {
	r := rand.New(rand.NewSource(seed))
	var out []api.Rect
	for range many {
		rows, cols := []int{3, 12, 1000, lastRow}[r.Intn(4)], []int{3, 12, 300, lastCol}[r.Intn(4)]
		top, left := 1+r.Intn(rows), 1+r.Intn(cols)
		out = append(out, rect(top, left, top+r.Intn(rows-top+1), left+r.Intn(cols-left+1)))
	}
	return out
}

// about are the places in the corners, on the sides, within and just without a rectangle, and far off; by chance no places.
func about(r api.Rect) []api.At {
	out := []api.At{at(1, 1), at(lastRow, lastCol), at(1, lastCol), at(lastRow, 1), at(0, 0), at(lastRow+1, lastCol+1), at(math.MaxInt, math.MinInt)}
	for _, row := range []int{r.Top - 1, r.Top, r.Top + 1, r.Top/2 + r.Bottom/2, r.Bottom - 1, r.Bottom, r.Bottom + 1} {
		for _, col := range []int{r.Left - 1, r.Left, r.Left + 1, r.Left/2 + r.Right/2, r.Right - 1, r.Right, r.Right + 1} {
			out = append(out, at(row, col))
		}
	}
	return out
}

// scatteredText is near to a cell's text, or one.
func scatteredText(r *rand.Rand) string {
	pick := func(from string, most int) string {
		out := ""
		for range r.Intn(most + 1) {
			i := r.Intn(len(from))
			out += from[i : i+1]
		}
		return out
	}
	s := pick("$", 1) + pick(great+small, 3) + pick("$", 1) + pick("0123456789", 7)
	if r.Intn(3) > 0 {
		return s
	}
	i := r.Intn(len(s) + 1)
	return s[:i] + pick("$$ aZ09@[`{/:-+.\x00\x7f\x80\xc1\xff", 2) + s[i:]
}
