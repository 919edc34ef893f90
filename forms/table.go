package forms

import (
	"cmp"
	"iter"
	"slices"
	"strings"

	"foolscap/api"
)

// args is how many arguments functions take, and a letter for what they want of each.
type args struct {
	least, most int
	wants       string
}

// group is functions that take the same arguments, by their names, with blanks between.
type group struct {
	names string
	args  args
}

// table is the chapter's, line by line, so that the two can be held against each other.
func table() [21]group {
	return [...]group{
		{"ABS SIGN INT SQRT FACT EVEN ODD NOT ISERROR ISNA ISBLANK ISNUMBER ISTEXT ISLOGICAL LEN UPPER LOWER TRIM CHAR CODE VALUE N T YEAR MONTH DAY WEEKDAY", args{1, 1, "V"}},
		{"NA", args{0, 0, ""}},
		{"ROUND ROUNDUP ROUNDDOWN MOD POWER QUOTIENT CEILING FLOOR IFERROR IFNA REPT EXACT TEXT EDATE DAYS", args{2, 2, "VV"}},
		{"TRUNC LEFT RIGHT", args{1, 2, "VV"}},
		{"FIND SEARCH", args{2, 3, "VVV"}},
		{"MID DATE", args{3, 3, "VVV"}},
		{"REPLACE", args{4, 4, "VVVV"}},
		{"SUBSTITUTE", args{3, 4, "VVVV"}},
		{"IF", args{2, 3, "VVV"}},
		{"CHOOSE", args{2, 30, "VV"}},
		{"AND OR XOR SUM PRODUCT SUMSQ COUNT COUNTA COUNTBLANK AVERAGE MIN MAX MEDIAN MODE GCD LCM CONCAT", args{1, 30, "A"}},
		{"SUMPRODUCT", args{1, 30, "R"}},
		{"LARGE SMALL", args{2, 2, "RV"}},
		{"RANK", args{2, 3, "VRV"}},
		{"COUNTIF", args{2, 2, "RV"}},
		{"SUMIF AVERAGEIF", args{2, 3, "RVR"}},
		{"VLOOKUP HLOOKUP", args{3, 4, "VRVV"}},
		{"MATCH", args{2, 3, "VRV"}},
		{"INDEX", args{2, 3, "RVV"}},
		{"ROWS COLUMNS", args{1, 1, "R"}},
		{"ROW COLUMN", args{1, 1, "R"}},
	}
}

// function is one by its name.
type function struct {
	name string
	args args
}

// functions hands on all of them, in the table's order.
func functions() iter.Seq[function] {
	return func(yield func(function) bool) {
		for _, g := range table() {
			for name := range strings.SplitSeq(g.names, " ") {
				if !yield(function{name, g.args}) {
					return
				}
			}
		}
	}
}

// find tells the function of a name, if there is one.
func find(name string) (function, bool) {
	for f := range functions() {
		if f.name == name {
			return f, true
		}
	}
	return function{}, false
}

func (f function) form() api.Form {
	var wants []api.Want
	for i := range len(f.args.wants) {
		wants = append(wants, f.args.want(i))
	}
	return api.Form{Name: f.name, Least: f.args.least, Most: f.args.most, Wants: wants}
}

// want tells what is wanted of an argument, counted from 0 on; of further ones what is wanted of the last. It is not asked where none is taken.
func (a args) want(i int) api.Want {
	switch a.wants[min(i, len(a.wants)-1)] {
	case 'V':
		return api.WantValue
	case 'R':
		return api.WantRange
	}
	return api.WantAny
}

// sortBy puts things in order by a key of theirs.
func sortBy[T any, K cmp.Ordered](l []T, key func(T) K) {
	slices.SortFunc(l, func(a, b T) int { return cmp.Compare(key(a), key(b)) })
}
