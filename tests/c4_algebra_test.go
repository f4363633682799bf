package tests

import (
	"math"
	"slices"
	"testing"

	"loop.example/namedflags/impl"
)

func TestConstantOfChapter4(t *testing.T) {
	if impl.MaxBits != 6 {
		t.Error("MaxBits has another value")
	}
}

// pairCase is two values with what is made of them.
type pairCase struct{ a, b, or, and, xor, less int }

// checkPair checks what the operations make of two values.
func checkPair(t *testing.T, f impl.Flag, k pairCase) {
	t.Helper()
	got := pairCase{k.a, k.b, impl.OrValues(f, k.a, k.b), impl.AndValues(f, k.a, k.b), impl.XorValues(f, k.a, k.b), impl.LessValues(f, k.a, k.b)}
	if got != k {
		t.Errorf("%v: %v, want %v", f, got, k)
	}
}

func TestOperations(t *testing.T) {
	// The named bits are 2, 4, 8, 64 and 256, of which 8 and 64 are named only together.
	for _, bound := range allBounds {
		for _, k := range []pairCase{
			{0, 0, 0, 0, 0, 0},
			{6, 0, 6, 0, 6, 6},
			{0, 6, 6, 0, 6, 0},
			{6, 6, 6, 6, 0, 0},
			{2, 4, 6, 0, 6, 2},
			{6, 12, 14, 4, 10, 2},
			{12, 6, 14, 4, 10, 8},
			{8, 64, 72, 0, 72, 8},
			{74, 8, 74, 8, 66, 66},
			{334, 262, 334, 262, 72, 72},
			{262, 334, 334, 262, 72, 0},
			{334, 334, 334, 334, 0, 0},
		} {
			checkPair(t, doors(bound), k)
		}
		checkPair(t, fullFlag(bound), pairCase{4095, 2730, 4095, 2730, 1365, 1365})
		checkPair(t, fullFlag(bound), pairCase{2049, 2048, 2049, 2048, 1, 1})
	}
}

func TestOperationsKeepBitsWithoutAName(t *testing.T) {
	for _, k := range []pairCase{
		{1, 0, 1, 0, 1, 1},
		{1, 1, 1, 1, 0, 0},
		{3, 17, 19, 1, 18, 2},
		{4095, 334, 4095, 334, 3761, 3761},
		{334, 4095, 4095, 334, 3761, 0},
		{2048, 512, 2560, 0, 2560, 2048},
	} {
		checkPair(t, doors(impl.BdKeep), k)
		checkPair(t, impl.Flag{Bound: impl.BdKeep}, k)
	}
}

func TestInvertValue(t *testing.T) {
	for _, k := range []struct{ a, named, kept int }{
		{0, 334, 511}, {2, 332, 509}, {8, 326, 503}, {72, 262, 439}, {262, 72, 249}, {334, 0, 177},
	} {
		for _, bound := range allBounds {
			want := k.named
			if bound == impl.BdKeep {
				want = k.kept
			}
			if n := impl.InvertValue(doors(bound), k.a); n != want {
				t.Errorf("InvertValue(%v, %d) = %d", doors(bound), k.a, n)
			}
		}
	}
	// Bits above the highest named one are no part of what is inverted, but they are no part of the result either.
	for _, k := range [][2]int{{1, 510}, {177, 334}, {511, 0}, {512, 511}, {513, 510}, {3584, 511}, {3761, 334}, {4095, 0}} {
		if n := impl.InvertValue(doors(impl.BdKeep), k[0]); n != k[1] {
			t.Errorf("InvertValue(%v, %d) = %d", doors(impl.BdKeep), k[0], n)
		}
	}
	for _, bound := range allBounds {
		if impl.InvertValue(fullFlag(bound), 0) != 4095 || impl.InvertValue(fullFlag(bound), 4095) != 0 || impl.InvertValue(fullFlag(bound), 2730) != 1365 {
			t.Errorf("InvertValue(%v)", fullFlag(bound))
		}
	}
}

func TestHasAllAndCompareValues(t *testing.T) {
	for _, k := range []struct {
		a, b    int
		all     bool
		compare int
	}{
		{0, 0, true, 0}, {6, 6, true, 0}, {334, 334, true, 0},
		{6, 0, true, 1}, {6, 2, true, 1}, {334, 72, true, 1}, {74, 8, true, 1}, {258, 256, true, 1},
		{0, 6, false, -1}, {2, 6, false, -1}, {72, 334, false, -1}, {8, 74, false, -1}, {256, 258, false, -1},
		{2, 4, false, 2}, {4, 2, false, 2}, {6, 12, false, 2}, {12, 6, false, 2}, {8, 64, false, 2}, {256, 78, false, 2}, {78, 256, false, 2},
	} {
		for _, bound := range allBounds {
			f := doors(bound)
			if impl.HasAll(f, k.a, k.b) != k.all || impl.CompareValues(f, k.a, k.b) != k.compare {
				t.Errorf("%v: HasAll(%d, %d) = %v, CompareValues = %d", f, k.a, k.b, !k.all, impl.CompareValues(f, k.a, k.b))
			}
		}
	}
	for _, f := range []impl.Flag{doors(impl.BdKeep), {Bound: impl.BdKeep}} {
		if !impl.HasAll(f, 17, 1) || impl.HasAll(f, 1, 17) || impl.HasAll(f, 16, 1) || !impl.HasAll(f, 4095, 2048) {
			t.Errorf("HasAll(%v) of bits without a name", f)
		}
		if impl.CompareValues(f, 17, 1) != 1 || impl.CompareValues(f, 1, 17) != -1 || impl.CompareValues(f, 16, 1) != 2 || impl.CompareValues(f, 4095, 4095) != 0 {
			t.Errorf("CompareValues(%v) of bits without a name", f)
		}
	}
}

// namesCase is a value with its names, its rest and the number of its bits.
type namesCase struct {
	a     int
	names []string
	rest  int
	count int
}

// checkNames checks the names in a value, its rest and the number of its bits.
func checkNames(t *testing.T, f impl.Flag, k namesCase) {
	t.Helper()
	if names := impl.NamesIn(f, k.a); !slices.Equal(names, k.names) {
		t.Errorf("NamesIn(%v, %d) = %q", f, k.a, names)
	}
	if rest, count := impl.RestIn(f, k.a), impl.CountBits(f, k.a); rest != k.rest || count != k.count {
		t.Errorf("%v: RestIn(%d) = %d, CountBits = %d", f, k.a, rest, count)
	}
}

func TestNamesInAndRestIn(t *testing.T) {
	for _, bound := range allBounds {
		for _, k := range []namesCase{
			{0, nil, 0, 0},
			{2, []string{"out"}, 0, 1},
			{6, []string{"out", "in"}, 0, 2},
			{8, nil, 8, 1},
			{72, nil, 72, 2},
			{74, []string{"out"}, 72, 3},
			{260, []string{"in", "lock"}, 0, 2},
			{334, []string{"out", "in", "lock"}, 72, 5},
		} {
			checkNames(t, doors(bound), k)
		}
		checkNames(t, fullFlag(bound), namesCase{4095, namesOf(fullEnum()), 0, 12})
		checkNames(t, fullFlag(bound), namesCase{2049, []string{"a", "l"}, 0, 2})
		// No bit has a name of its own.
		checkNames(t, flagOf(bound, 4095), namesCase{4095, nil, 4095, 12})
		checkNames(t, flagOf(bound, 6, 12), namesCase{10, nil, 10, 2})
		// The first name of a bit is told, and not the others; names are told by bits.
		checkNames(t, flagOf(bound, 8, 0, 1, 9, 8, 1), namesCase{9, []string{"c", "a"}, 0, 2})
	}
}

func TestNamesInAndRestInOfKeptBits(t *testing.T) {
	for _, k := range []namesCase{
		{1, nil, 1, 1},
		{3, []string{"out"}, 1, 2},
		{512, nil, 512, 1},
		{3833, nil, 3833, 9},
		{4095, []string{"out", "in", "lock"}, 3833, 12},
	} {
		checkNames(t, doors(impl.BdKeep), k)
		none := impl.Flag{Defs: []impl.Def{def("none", 0)}, Bound: impl.BdKeep}
		checkNames(t, none, namesCase{k.a, nil, k.a, k.count})
	}
}

func TestPartsOf(t *testing.T) {
	for _, k := range []struct {
		a    int
		want []int
	}{
		{0, []int{0}},
		{8, []int{0, 8}},
		{6, []int{0, 2, 4, 6}},
		{74, []int{0, 2, 8, 10, 64, 66, 72, 74}},
		{322, []int{0, 2, 64, 66, 256, 258, 320, 322}},
	} {
		for _, bound := range allBounds {
			if parts := impl.PartsOf(doors(bound), k.a); !slices.Equal(parts, k.want) {
				t.Errorf("PartsOf(%v, %d) = %v", doors(bound), k.a, parts)
			}
		}
	}
	if parts := impl.PartsOf(doors(impl.BdKeep), 2561); !slices.Equal(parts, []int{0, 1, 512, 513, 2048, 2049, 2560, 2561}) {
		t.Errorf("PartsOf a value with bits that are kept = %v", parts)
	}
}

func TestPartsOfValuesWithManyBits(t *testing.T) {
	most := []int{63, 4032, 2730, 1365, 126, 2079}
	more := []int{127, 4064, 2731, 3413, 2175, 4094, 4095}
	flags := []impl.Flag{flagOf(impl.BdKeep, 3), {Bound: impl.BdKeep}}
	for _, bound := range allBounds {
		flags = append(flags, fullFlag(bound), flagOf(bound, 4095))
	}
	for _, f := range flags {
		for _, a := range most {
			parts := impl.PartsOf(f, a)
			if len(parts) != 64 || parts[0] != 0 || parts[63] != a || !slices.Equal(parts, plainParts(a)) {
				t.Errorf("PartsOf(%v, %d) = %v", f, a, parts)
			}
		}
		for _, a := range more {
			if parts := impl.PartsOf(f, a); parts != nil {
				t.Errorf("PartsOf(%v, %d) = %v", f, a, parts)
			}
		}
	}
}

func TestFromNames(t *testing.T) {
	for _, k := range []struct {
		list []string
		want int
	}{
		{nil, 0},
		{[]string{}, 0},
		{[]string{"none"}, 0},
		{[]string{"none", "none"}, 0},
		{[]string{"in"}, 4},
		{[]string{"enter"}, 4},
		{[]string{"in", "enter"}, 4},
		{[]string{"in", "in", "in"}, 4},
		{[]string{"both"}, 6},
		{[]string{"pair", "both"}, 6},
		{[]string{"pair", "in", "none"}, 6},
		{[]string{"wide"}, 74},
		{[]string{"wide", "both"}, 78},
		{[]string{"both", "wide"}, 78},
		{[]string{"lock", "out"}, 258},
		{[]string{"in", "both", "out", "none", "wide", "enter", "pair", "lock"}, 334},
		{slices.Repeat([]string{"lock", "wide", "none"}, 200), 330},
	} {
		for _, bound := range allBounds {
			if n, ok := impl.FromNames(doors(bound), k.list); !ok || n != k.want {
				t.Errorf("FromNames(%v, %q) = %d, %v", doors(bound), k.list, n, ok)
			}
		}
	}
	for _, bound := range allBounds {
		if n, ok := impl.FromNames(fullFlag(bound), namesOf(fullEnum())); !ok || n != 4095 {
			t.Errorf("FromNames(%v) of all names = %d, %v", fullFlag(bound), n, ok)
		}
	}
}

func TestFromNamesThatAreNotThere(t *testing.T) {
	for _, s := range append(oddNames, "i", "inn", "IN", " in", "in ", "4", "0", "none|in", "mark") {
		for _, list := range [][]string{{s}, {s, "in"}, {"in", s}, {"in", s, "lock"}, {"none", "wide", "pair", s}} {
			for _, bound := range allBounds {
				if n, ok := impl.FromNames(doors(bound), list); ok || n != 0 {
					t.Errorf("FromNames(%v, %q) = %d, %v", doors(bound), list, n, ok)
				}
				if n, ok := impl.FromNames(impl.Flag{Bound: bound}, list); ok || n != 0 {
					t.Errorf("FromNames(%v, %q) = %d, %v", impl.Flag{Bound: bound}, list, n, ok)
				}
			}
		}
	}
}

func TestAlgebraWithoutNames(t *testing.T) {
	for _, list := range [][]impl.Def{nil, {}, {def("a", 0)}, {def("a", 0), def("b", 0)}} {
		for _, bound := range allBounds {
			f := impl.Flag{Defs: list, Bound: bound}
			checkPair(t, f, pairCase{})
			checkNames(t, f, namesCase{})
			if impl.InvertValue(f, 0) != 0 || !impl.HasAll(f, 0, 0) || impl.CompareValues(f, 0, 0) != 0 || !slices.Equal(impl.PartsOf(f, 0), []int{0}) {
				t.Errorf("%v: the value 0", f)
			}
			if n, ok := impl.FromNames(f, nil); !ok || n != 0 {
				t.Errorf("FromNames(%v) of no names = %d, %v", f, n, ok)
			}
			if n, ok := impl.FromNames(f, namesOfFlag(f)); !ok || n != 0 {
				t.Errorf("FromNames(%v) of all names = %d, %v", f, n, ok)
			}
			if bound == impl.BdKeep {
				checkKeptWithoutNames(t, f)
			}
		}
	}
}

// checkKeptWithoutNames checks what a class that keeps all bits and names none makes of them: inverted they are nothing.
func checkKeptWithoutNames(t *testing.T, f impl.Flag) {
	t.Helper()
	for _, a := range []int{1, 6, 2048, 4095} {
		checkPair(t, f, pairCase{a, a, a, a, 0, 0})
		checkPair(t, f, pairCase{a, 0, a, 0, a, a})
		checkNames(t, f, namesCase{a, nil, a, len(bitsOf(a))})
		if impl.InvertValue(f, a) != 0 || impl.CompareValues(f, a, 0) != 1 || !slices.Equal(impl.PartsOf(f, a), plainParts(a)) {
			t.Errorf("%v: the value %d", f, a)
		}
	}
}

// checkNoValues checks that two numbers, one of which is no value or both, have the fixed results.
func checkNoValues(t *testing.T, f impl.Flag, a, b int) {
	t.Helper()
	checkPair(t, f, pairCase{a, b, -1, -1, -1, -1})
	if impl.HasAll(f, a, b) || impl.CompareValues(f, a, b) != 3 {
		t.Errorf("%v: HasAll(%d, %d) = %v, CompareValues = %d", f, a, b, impl.HasAll(f, a, b), impl.CompareValues(f, a, b))
	}
}

// checkNoValue checks that a number that is no value has the fixed results.
func checkNoValue(t *testing.T, f impl.Flag, a int) {
	t.Helper()
	if impl.InvertValue(f, a) != -1 || impl.RestIn(f, a) != -1 || impl.CountBits(f, a) != -1 {
		t.Errorf("%v: InvertValue(%d) = %d, RestIn = %d, CountBits = %d", f, a, impl.InvertValue(f, a), impl.RestIn(f, a), impl.CountBits(f, a))
	}
	if impl.NamesIn(f, a) != nil || impl.PartsOf(f, a) != nil {
		t.Errorf("%v: NamesIn(%d) = %q, PartsOf = %v", f, a, impl.NamesIn(f, a), impl.PartsOf(f, a))
	}
}

func TestNumbersThatAreNoValues(t *testing.T) {
	flags := smallFlags()
	for _, bound := range allBounds {
		flags = append(flags, doors(bound), fullFlag(bound), flagOf(bound, 2049), flagOf(bound, 4095))
	}
	for _, f := range flags {
		mask := plainMask(f.Defs)
		for _, n := range nonValues(f) {
			checkNoValue(t, f, n)
			for _, a := range []int{0, mask} {
				checkNoValues(t, f, n, a)
				checkNoValues(t, f, a, n)
			}
			checkNoValues(t, f, n, n)
			checkNoValues(t, f, n, -1)
		}
	}
}

func TestAlgebraOfInvalidFlags(t *testing.T) {
	for _, f := range invalidFlags() {
		for _, a := range []int{math.MinInt, -1, 0, 1, 2, 7, 4095, 4096, math.MaxInt} {
			checkNoValue(t, f, a)
			for _, b := range []int{-1, 0, 1, a} {
				checkNoValues(t, f, a, b)
				checkNoValues(t, f, b, a)
			}
		}
		for _, list := range [][]string{nil, {}, {"a"}, {"in"}, {"x"}, {""}, namesOfFlag(f)} {
			if n, ok := impl.FromNames(f, list); ok || n != 0 {
				t.Errorf("FromNames(%v, %q) = %d, %v", f, list, n, ok)
			}
		}
	}
}
