package forms

import (
	"cmp"
	"slices"
	"strings"
	"testing"

	"foolscap/api"
)

// P9.1: All tells the chapter's functions, by their names.
func TestAll(t *testing.T) {
	all := All()
	if len(names) != 86 || len(all) != len(names) {
		t.Fatalf("All tells %d functions, the chapter has %d", len(all), len(names))
	}
	for i, f := range all {
		if !sameForm(f, known[names[i]]) {
			t.Errorf("All's %d-th is %v, want %v", i, f, known[names[i]])
		}
	}
}

// P9.1: Find tells each of them as All does, and as the chapter has it.
func TestFind(t *testing.T) {
	for _, f := range All() {
		if got, e := Find(f.Name); !sameForm(got, f) || !sameForm(got, known[f.Name]) || e != api.OK {
			t.Errorf("Find(%q) = %v, %d, want %v", f.Name, got, e, f)
		}
	}
	if f, e := Find("NA"); f.Least != 0 || f.Most != 0 || len(f.Wants) != 0 || e != api.OK {
		t.Errorf("Find of NA = %v, %d", f, e)
	}
	if f, e := Find("SUMIF"); f.Name != "SUMIF" || f.Least != 2 || f.Most != 3 || !slices.Equal(f.Wants, []api.Want{2, 1, 2}) || e != api.OK {
		t.Errorf("Find of SUMIF = %v, %d", f, e)
	}
	if f, e := Find("CONCAT"); f.Least != 1 || f.Most != 30 || !slices.Equal(f.Wants, []api.Want{3}) || e != api.OK {
		t.Errorf("Find of CONCAT = %v, %d", f, e)
	}
}

// strangeNames are names that no function has.
func strangeNames() []string {
	out := []string{"", " ", "FOO", "SUM SUMSQ", "ABS SIGN", "OR XOR", "SUM,", "|", "V", "R", "A", "B", "WANTS", "É", "\x00", "\xff", "1", "A1", "TRUE", "#REF!", "+", "(", strings.Repeat("A", 1000), strings.Repeat("SUM", 500)}
	for _, s := range names {
		small := strings.ToLower(s)
		out = append(out, small, s[:1]+small[1:]+"?", s+" ", " "+s, s+"(", s+"()", s+"\x00", s+"_", s+".", s+"1", "_"+s, "\t"+s, s+"\n", s+s, s+","+s)
		for i := range len(s) {
			out = append(out, s[:i], s[i+1:], s[:i]+s[i+1:], s[:i]+small[i:i+1]+s[i+1:], s[:i]+"Q"+s[i:])
		}
	}
	return slices.DeleteFunc(out, func(s string) bool { _, there := known[s]; return there })
}

// P9.1: what no function has for a name.
func TestFindNone(t *testing.T) {
	for _, s := range strangeNames() {
		if f, e := Find(s); !sameForm(f, api.Form{}) || e != api.ErrNone {
			t.Errorf("Find(%q) = %v, %d", s, f, e)
		}
	}
}

// P9.5: no two functions have one name; each takes as many arguments as its Least, and says what it wants of them.
func TestTable(t *testing.T) {
	all := All()
	for i, f := range all {
		if i > 0 && cmp.Compare(all[i-1].Name, f.Name) >= 0 {
			t.Errorf("%s is told ahead of %s", all[i-1].Name, f.Name)
		}
		if f.Least < 0 || f.Most < f.Least || len(f.Wants) > f.Most || f.Most > 0 && len(f.Wants) == 0 {
			t.Errorf("%s takes %d to %d, and wants %v", f.Name, f.Least, f.Most, f.Wants)
		}
		if f.Name == "" || len(f.Name) > api.MaxName || f.Name != strings.ToUpper(f.Name) {
			t.Errorf("a function is named %q", f.Name)
		}
		for _, w := range f.Wants {
			if w < api.WantValue || w > api.WantAny {
				t.Errorf("%s wants %v", f.Name, f.Wants)
			}
		}
		for _, many := range []int{f.Least, f.Most} {
			checks(t, call(f.Name, fittingKids(f, many)...), api.OK)
		}
	}
}

// Rules: what is told is new memory, of which no two lists share any.
func TestFormsAreNew(t *testing.T) {
	spoil := func(f *api.Form) {
		for i := range f.Wants {
			f.Wants[i] = 9
		}
		f.Wants = append(f.Wants, 9, 9)
		f.Name, f.Least, f.Most = "SPOILT", 9, 9
	}
	all := All()
	for i := range all {
		spoil(&all[i])
		for k := i + 1; k < len(all); k++ {
			if !sameForm(all[k], known[names[k]]) {
				t.Fatalf("%s spoilt with %s", names[k], names[i])
			}
		}
	}
	for _, s := range names {
		a, _ := Find(s)
		b, _ := Find(s)
		spoil(&a)
		if !sameForm(b, known[s]) {
			t.Errorf("%s spoilt with itself", s)
		}
		if c, e := Find(s); !sameForm(c, known[s]) || e != api.OK {
			t.Errorf("%s is kept spoilt", s)
		}
	}
	TestAll(t)
}
