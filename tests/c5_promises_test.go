package tests

import (
	"fmt"
	"slices"
	"testing"

	"loop.example/namedflags/impl"
)

// checkTexts checks the names and texts of a value against what the document says.
func checkTexts(t *testing.T, f impl.Flag, a int) {
	t.Helper()
	short := plainShort(f, a)
	checkShow(t, f, showCase{a, plainShow(f, a), plainText(f, a, short)})
	if names := impl.FittingNames(f, a); !slices.Equal(names, namesOf(impl.Enum{Defs: plainFitting(f, a)})) {
		t.Fatalf("FittingNames(%v, %d) = %q", f, a, names)
	}
	if names := impl.ShortNames(f, a); !slices.Equal(names, short) {
		t.Fatalf("ShortNames(%v, %d) = %q, want %q", f, a, names, short)
	}
}

func TestValuesAreShownAsTheDocumentSays(t *testing.T) {
	values(func(f impl.Flag, a int) { checkTexts(t, f, a) })
	for _, f := range []impl.Flag{doors(impl.BdKeep), rests(impl.BdKeep), savers(impl.BdFit), flagOf(impl.BdStrict, 3, 5, 6, 9, 12, 48, 33, 17, 64, 112, 71, 0)} {
		for a := range impl.MaxFlag + 1 {
			if plainIs(f, a) {
				checkTexts(t, f, a)
			}
		}
	}
}

func TestTextsAreReadAsTheDocumentSays(t *testing.T) {
	read, others := 0, 0
	texts(func(f impl.Flag, s string) {
		want, fits := plainRead(f, s)
		checkRead(t, f, s, want, fits)
		if fits {
			read++
		} else {
			others++
		}
	})
	if read < 1000 || others < 1000 {
		t.Errorf("only %d texts are read, %d are not", read, others)
	}
}

// allValues calls use with the values of classes, and with those of some classes all of them.
func allValues(use func(f impl.Flag, a int)) {
	values(use)
	for _, f := range flagsOfRests() {
		for a := range impl.MaxFlag + 1 {
			if plainIs(f, a) {
				use(f, a)
			}
		}
	}
}

func TestP51TextsOfValuesAreReadBack(t *testing.T) {
	allValues(func(f impl.Flag, a int) {
		s := impl.ShowValue(f, a)
		if n, ok := impl.ReadValue(f, s); !ok || n != a {
			t.Fatalf("%v: ShowValue(%d) = %q, which is read as %d, %v", f, a, s, n, ok)
		}
	})
}

func TestP52WhatIsReadIsShownAndReadAgain(t *testing.T) {
	read := 0
	texts(func(f impl.Flag, s string) {
		n, ok := impl.ReadValue(f, s)
		twice, same := impl.ReadValue(f, s+"|"+s)
		if twice != n || same != ok {
			t.Fatalf("%v: %q is read as %d, %v, and twice as %d, %v", f, s, n, ok, twice, same)
		}
		if !ok {
			return
		}
		read++
		shown := impl.ShowValue(f, n)
		if again, ok := impl.ReadValue(f, shown); !ok || again != n {
			t.Fatalf("%v: %q is read as %d and shown as %q, which is read as %d, %v", f, s, n, shown, again, ok)
		}
	})
	for _, f := range flagsOfRests() {
		for _, s := range namesOfFlag(f) {
			if n, ok := impl.ReadValue(f, s+"|"+s); !ok || n != valueOfNames(t, f, []string{s}) {
				t.Fatalf("%v: %q twice is read as %d, %v", f, s, n, ok)
			}
		}
	}
	if read < 1000 {
		t.Errorf("only %d texts are read", read)
	}
}

func TestP53NamesThatFitAreParts(t *testing.T) {
	composed := 0
	allValues(func(f impl.Flag, a int) {
		fitting := impl.FittingNames(f, a)
		for _, s := range fitting {
			value := valueOfNames(t, f, []string{s})
			if value == 0 || !impl.HasAll(f, a, value) {
				t.Fatalf("FittingNames(%v, %d) = %q, but %q is %d", f, a, fitting, s, value)
			}
			if impl.CountBits(f, value) > 1 {
				composed++
			}
		}
		for _, s := range impl.NamesIn(f, a) {
			if !slices.Contains(fitting, s) {
				t.Fatalf("FittingNames(%v, %d) = %q, which %q is not among", f, a, fitting, s)
			}
		}
	})
	if composed < 1000 {
		t.Errorf("only %d composed names fit", composed)
	}
}

func TestP54ShortNamesAreAsGoodAsAll(t *testing.T) {
	saved := 0
	allValues(func(f impl.Flag, a int) {
		fitting, short := impl.FittingNames(f, a), impl.ShortNames(f, a)
		all := valueOfNames(t, f, fitting)
		if valueOfNames(t, f, short) != all || len(short) > impl.CountBits(f, a) {
			t.Fatalf("%v: FittingNames(%d) = %q, ShortNames = %q", f, a, fitting, short)
		}
		for i := range short {
			others := slices.Delete(slices.Clone(short), i, i+1)
			if valueOfNames(t, f, others) == all {
				t.Fatalf("ShortNames(%v, %d) = %q, but %q are as good", f, a, short, others)
			}
		}
		if len(short) < len(impl.NamesIn(f, a)) {
			saved++
		}
	})
	if saved < 1000 {
		t.Errorf("only %d values have short names that save others", saved)
	}
}

func TestP55NamesOfTheirOwnAreShortest(t *testing.T) {
	others := 0
	for _, f := range append(validFlags(), flagsOfRests()...) {
		for _, d := range f.Defs {
			short := impl.ShortNames(f, d.Value)
			if d.Value == 0 {
				if len(short) > 0 {
					t.Fatalf("ShortNames(%v, 0) = %q", f, short)
				}
				continue
			}
			first := f.Defs[slices.IndexFunc(f.Defs, func(e impl.Def) bool { return e.Value == d.Value })].Name
			if !slices.Equal(short, []string{first}) {
				t.Fatalf("ShortNames(%v, %d) = %q, but it is %q", f, d.Value, short, first)
			}
			if first != d.Name {
				others++
			}
		}
	}
	if others < 100 {
		t.Errorf("only %d names have another one ahead of them with their value", others)
	}
}

func TestP56ShortTextsAreReadBack(t *testing.T) {
	fewer := 0
	allValues(func(f impl.Flag, a int) {
		long, short := impl.ShowValue(f, a), impl.ShowShort(f, a)
		if n, ok := impl.ReadValue(f, short); !ok || n != a {
			t.Fatalf("%v: ShowShort(%d) = %q, which is read as %d, %v", f, a, short, n, ok)
		}
		if impl.RestIn(f, a) > 0 {
			return
		}
		if nameCount(short) > nameCount(long) {
			t.Fatalf("%v: ShowValue(%d) = %q, ShowShort = %q", f, a, long, short)
		}
		if nameCount(short) < nameCount(long) {
			fewer++
		}
	})
	if fewer < 400 {
		t.Errorf("only %d short texts have fewer names", fewer)
	}
}

func TestP57ExactNamesHaveTheValue(t *testing.T) {
	exact, others := 0, 0
	allValues(func(f impl.Flag, a int) {
		s, ok := impl.ExactName(f, a)
		i := slices.IndexFunc(f.Defs, func(d impl.Def) bool { return d.Value == a })
		if ok != (i >= 0) {
			t.Fatalf("ExactName(%v, %d) = %q, %v", f, a, s, ok)
		}
		if !ok {
			others++
			return
		}
		exact++
		if valueOfNames(t, f, []string{s}) != a || s != f.Defs[i].Name {
			t.Fatalf("ExactName(%v, %d) = %q", f, a, s)
		}
	})
	if exact < 1000 || others < 1000 {
		t.Errorf("only %d values have an exact name, %d have none", exact, others)
	}
}

func TestP58ValuesAreShownByTheirNames(t *testing.T) {
	named, others := 0, 0
	enumNumbers(func(e impl.Enum, n int) {
		s := impl.ShowEnum(e, n)
		want := ""
		if name, ok := impl.NameOf(e, n); ok {
			want = name
			named++
		} else if n >= -impl.MaxValue && n <= impl.MaxValue {
			want = fmt.Sprint(n)
			others++
		}
		if s != want {
			t.Fatalf("ShowEnum(%v, %d) = %q", e, n, s)
		}
		if _, ok := impl.ValueOf(e, s); ok != slices.ContainsFunc(e.Defs, func(d impl.Def) bool { return d.Value == n }) {
			t.Fatalf("ShowEnum(%v, %d) = %q, which is a name: %v", e, n, s, ok)
		}
	})
	if named < 1000 || others < 1000 {
		t.Errorf("only %d values are named, %d are not", named, others)
	}
}
