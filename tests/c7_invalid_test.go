package tests

import (
	"math"
	"slices"
	"testing"

	"loop.example/namedflags/impl"
)

// checkNoConversion checks that no name goes from one enumeration to another one, as one of them is not valid.
func checkNoConversion(t *testing.T, a, b impl.Enum) {
	t.Helper()
	for _, s := range slices.Concat(namesOf(a), namesOf(b), []string{"a", "b", "red", "x", ""}) {
		if name, ok := impl.ByName(a, b, s); ok || name != "" {
			t.Errorf("ByName(%v, %v, %q) = %q, %v", a, b, s, name, ok)
		}
		if name, ok := impl.ByValue(a, b, s); ok || name != "" {
			t.Errorf("ByValue(%v, %v, %q) = %q, %v", a, b, s, name, ok)
		}
	}
}

func TestNamesOfInvalidEnumerations(t *testing.T) {
	for _, e := range invalidEnums() {
		for _, valid := range []impl.Enum{colours(), fullEnum(), enumOf(1, 1, 4), {}} {
			checkNoConversion(t, e, valid)
			checkNoConversion(t, valid, e)
		}
		checkNoConversion(t, e, e)
	}
}

func TestNumbersOfInvalidEnumerations(t *testing.T) {
	for _, e := range invalidEnums() {
		if after := impl.Renumber(e); after.Defs != nil {
			t.Errorf("Renumber(%v) = %v", e, after)
		}
		if f := impl.FlagOf(e); f.Defs != nil || f.Bound != 0 {
			t.Errorf("FlagOf(%v) = %v", e, f)
		}
		for _, list := range [][]string{nil, {}, {"a"}, {"zz"}, {""}, namesOf(e)} {
			if n, ok := impl.SetOf(e, list); ok || n != 0 {
				t.Errorf("SetOf(%v, %q) = %d, %v", e, list, n, ok)
			}
		}
		for _, n := range []int{-1, 0, 1, 2, 7, 4095, 4096} {
			if names := impl.MembersIn(e, n); names != nil {
				t.Errorf("MembersIn(%v, %d) = %q", e, n, names)
			}
		}
	}
}

func TestTablesOfInvalidEnumerations(t *testing.T) {
	for _, e := range invalidEnums() {
		for _, list := range [][]impl.Def{nil, {}, {def("a", 1)}, {def("a", 1), def("b", 1)}, {def("zz", 0)}, e.Defs, e.Defs[:1], fullEnum().Defs} {
			checkNoTable(t, e, list)
		}
		for n := range len(e.Defs) + 2 {
			checkNoRows(t, e, make([]int, n))
		}
		checkNoRows(t, e, nil)
		checkNoRows(t, e, []int{1001})
	}
}

func TestEnumOfInvalidFlags(t *testing.T) {
	for _, f := range invalidFlags() {
		if e := impl.EnumOf(f); e.Defs != nil {
			t.Errorf("EnumOf(%v) = %v", f, e)
		}
	}
}

func TestConvertValueOfInvalidFlags(t *testing.T) {
	for _, f := range invalidFlags() {
		for _, g := range []impl.Flag{flagOf(impl.BdStrict, 1, 2, 4), flagOf(impl.BdKeep, 4, 2, 1), doors(impl.BdFit), {}, {Bound: impl.BdKeep}, f} {
			for _, a := range []int{math.MinInt, -1, 0, 1, 2, 3, 6, 4095, 4096, math.MaxInt} {
				checkConvert(t, f, g, a, -1)
				checkConvert(t, g, f, a, -1)
			}
		}
	}
}

func TestConvertNumbersThatAreNoValues(t *testing.T) {
	for _, f := range flagsToConvert() {
		for _, n := range nonValues(f) {
			checkConvert(t, f, f, n, -1)
			checkConvert(t, f, fullFlag(impl.BdKeep), n, -1)
			checkConvert(t, f, impl.Flag{Bound: impl.BdKeep}, n, -1)
		}
	}
}
