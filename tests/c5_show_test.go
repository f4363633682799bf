package tests

import (
	"math"
	"slices"
	"strings"
	"testing"

	"loop.example/namedflags/impl"
)

// showCase is a value with its two texts.
type showCase struct {
	a           int
	long, short string
}

// checkShow checks the texts of a value.
func checkShow(t *testing.T, f impl.Flag, k showCase) {
	t.Helper()
	if long, short := impl.ShowValue(f, k.a), impl.ShowShort(f, k.a); long != k.long || short != k.short {
		t.Errorf("%v: ShowValue(%d) = %q, ShowShort = %q, want %q and %q", f, k.a, long, short, k.long, k.short)
	}
}

func TestShowValueAndShowShort(t *testing.T) {
	for _, bound := range allBounds {
		for _, k := range []showCase{
			{0, "none", "none"},
			{2, "out", "out"},
			{4, "in", "in"},
			{6, "out|in", "both"},
			{8, "8", "8"},
			{72, "72", "72"},
			{74, "out|72", "wide"},
			{78, "out|in|72", "in|wide"},
			{14, "out|in|8", "both|8"},
			{76, "in|72", "in|72"},
			{260, "in|lock", "in|lock"},
			{262, "out|in|lock", "both|lock"},
			{334, "out|in|lock|72", "in|wide|lock"},
		} {
			checkShow(t, doors(bound), k)
		}
		for _, k := range []showCase{
			{0, "off", "off"}, {1, "x", "x"}, {6, "w|r", "rw"}, {7, "x|w|r", "rw|x"}, {8, "8", "8"},
			{9, "x|8", "x|8"}, {12, "r|8", "r|8"}, {14, "w|r|8", "most"}, {15, "x|w|r|8", "most|x"},
		} {
			checkShow(t, rests(bound), k)
		}
	}
}

func TestShowBitsWithoutAName(t *testing.T) {
	for _, k := range []showCase{
		{1, "1", "1"},
		{512, "512", "512"},
		{3, "out|1", "out|1"},
		{15, "out|in|9", "both|9"},
		{75, "out|73", "wide|1"},
		{95, "out|in|89", "in|wide|17"},
		{3584, "3584", "3584"},
		{4095, "out|in|lock|3833", "in|wide|lock|3761"},
	} {
		checkShow(t, doors(impl.BdKeep), k)
	}
	for _, list := range [][]impl.Def{nil, {}, {def("no", 0)}, {def("no", 0), def("not", 0)}} {
		f := impl.Flag{Defs: list, Bound: impl.BdKeep}
		for _, k := range []showCase{{1, "1", "1"}, {10, "10", "10"}, {4095, "4095", "4095"}} {
			checkShow(t, f, k)
		}
	}
}

func TestShowNothing(t *testing.T) {
	for _, bound := range allBounds {
		for _, k := range []struct {
			list []impl.Def
			want string
		}{
			{nil, "0"},
			{[]impl.Def{}, "0"},
			{[]impl.Def{def("a", 1)}, "0"},
			{[]impl.Def{def("a", 6), def("b", 4095)}, "0"},
			{[]impl.Def{def("a", 0)}, "a"},
			{[]impl.Def{def("b", 0), def("a", 0)}, "b"},
			{[]impl.Def{def("a", 1), def("z", 0), def("b", 2), def("c", 0)}, "z"},
			{flagOf(0, make([]int, impl.MaxItems)...).Defs, "a"},
		} {
			f := impl.Flag{Defs: k.list, Bound: bound}
			checkShow(t, f, showCase{0, k.want, k.want})
			if names := slices.Concat(impl.FittingNames(f, 0), impl.ShortNames(f, 0)); len(names) > 0 {
				t.Errorf("%v: the names %q fit in 0", f, names)
			}
			if n, ok := impl.ReadValue(f, k.want); !ok || n != 0 {
				t.Errorf("ReadValue(%v, %q) = %d, %v", f, k.want, n, ok)
			}
		}
	}
}

func TestShowOfManyNames(t *testing.T) {
	for _, bound := range allBounds {
		checkShow(t, fullFlag(bound), showCase{4095, "a|b|c|d|e|f|g|h|i|j|k|l", "a|b|c|d|e|f|g|h|i|j|k|l"})
		checkShow(t, fullFlag(bound), showCase{2730, "b|d|f|h|j|l", "b|d|f|h|j|l"})
		// Names of two bits each, of which every second one does.
		ring := flagOf(bound, 3, 6, 12, 24, 48, 96, 192, 384, 768, 1536, 3072, 2049)
		checkShow(t, ring, showCase{4095, "4095", "a|c|e|g|i|k"})
		checkShow(t, ring, showCase{2046, "2046", "b|d|f|h|j"})
		checkShow(t, ring, showCase{1365, "1365", "1365"})
		// The last name saves all others.
		last := flagOf(bound, 1, 2, 4, 8, 16, 32, 64, 128, 256, 512, 3072, 4095)
		checkShow(t, last, showCase{4095, "a|b|c|d|e|f|g|h|i|j|3072", "l"})
		checkShow(t, last, showCase{4094, "b|c|d|e|f|g|h|i|j|3072", "b|c|d|e|f|g|h|i|j|k"})
	}
}

func TestFittingNames(t *testing.T) {
	for _, bound := range allBounds {
		for _, k := range []struct {
			a    int
			want []string
		}{
			{0, nil}, {2, []string{"out"}}, {4, []string{"in", "enter"}}, {8, nil}, {72, nil}, {256, []string{"lock"}},
			{6, []string{"in", "both", "out", "enter", "pair"}}, {14, []string{"in", "both", "out", "enter", "pair"}},
			{74, []string{"out", "wide"}}, {76, []string{"in", "enter"}}, {262, []string{"in", "both", "out", "enter", "pair", "lock"}},
			{334, []string{"in", "both", "out", "wide", "enter", "pair", "lock"}},
		} {
			if names := impl.FittingNames(doors(bound), k.a); !slices.Equal(names, k.want) {
				t.Errorf("FittingNames(%v, %d) = %q", doors(bound), k.a, names)
			}
		}
		if names := impl.FittingNames(fullFlag(bound), 4095); !slices.Equal(names, namesOf(fullEnum())) {
			t.Errorf("FittingNames(%v, 4095) = %q", fullFlag(bound), names)
		}
	}
	if names := impl.FittingNames(doors(impl.BdKeep), 3761); names != nil {
		t.Errorf("FittingNames of bits without a name = %q", names)
	}
	if names := impl.FittingNames(doors(impl.BdKeep), 3839); !slices.Equal(names, []string{"in", "both", "out", "wide", "enter", "pair"}) {
		t.Errorf("FittingNames of bits with a name and others = %q", names)
	}
}

func TestShortNames(t *testing.T) {
	for _, k := range []struct {
		values []int
		a      int
		want   string
	}{
		{[]int{1, 2, 3}, 3, "c"},
		{[]int{3, 1, 2}, 3, "a"},
		{[]int{1, 2, 3}, 1, "a"},
		// Several names of one value: the first one.
		{[]int{4, 4, 4}, 4, "a"},
		{[]int{1, 6, 6, 1}, 7, "ab"},
		{[]int{2, 1, 3, 3}, 3, "c"},
		{[]int{0, 0, 2, 2}, 2, "c"},
		// Several choices of the same size: the first name comes first, then the second one.
		{[]int{3, 6, 12, 9}, 15, "ac"},
		{[]int{6, 3, 9, 12}, 15, "ac"},
		{[]int{3, 5, 10, 12}, 15, "ad"},
		{[]int{5, 3, 12, 10}, 15, "ad"},
		{[]int{3, 12, 12, 3}, 15, "ab"},
		{[]int{1, 7, 14, 8, 15}, 15, "e"},
		{[]int{1, 7, 14, 8}, 15, "ac"},
		{[]int{1, 6, 9, 14}, 15, "ad"},
		{[]int{8, 6, 1, 9, 7}, 15, "ae"},
		{[]int{16, 3, 5, 10, 12, 24}, 31, "abe"},
		{[]int{3, 5, 6}, 7, "ab"},
		{[]int{6, 3, 5}, 7, "ab"},
		// The name with the most bits does not have to be among the fewest ones.
		{[]int{30, 7, 56}, 63, "bc"},
		{[]int{60, 7, 15, 48, 112}, 127, "ce"},
		{[]int{1, 2, 4, 8, 16, 32, 7, 56, 30}, 63, "gh"},
		{[]int{1, 2, 4, 8, 16, 32, 7, 56, 30}, 55, "efg"},
		// Some bits of the value have no name that fits.
		{[]int{1, 3, 12}, 7, "b"},
		{[]int{1, 12, 18}, 13, "ab"},
		{[]int{15, 8}, 7, ""},
		{[]int{0, 15}, 7, ""},
	} {
		for _, bound := range allBounds {
			f := flagOf(bound, k.values...)
			if names := impl.ShortNames(f, k.a); strings.Join(names, "") != k.want {
				t.Errorf("ShortNames(%v, %d) = %q", f, k.a, names)
			}
		}
	}
}

func TestExactName(t *testing.T) {
	for _, bound := range allBounds {
		for _, k := range []struct {
			a    int
			want string
		}{
			{0, "none"}, {2, "out"}, {4, "in"}, {6, "both"}, {74, "wide"}, {256, "lock"},
			{1, ""}, {3, ""}, {8, ""}, {72, ""}, {78, ""}, {334, ""}, {511, ""}, {4095, ""}, {4096, ""},
			{-1, ""}, {-4, ""}, {-4096, ""}, {math.MinInt, ""}, {math.MaxInt, ""},
		} {
			if name, ok := impl.ExactName(doors(bound), k.a); name != k.want || ok != (k.want != "") {
				t.Errorf("ExactName(%v, %d) = %q, %v", doors(bound), k.a, name, ok)
			}
		}
		if name, ok := impl.ExactName(impl.Flag{Bound: bound}, 0); ok || name != "" {
			t.Errorf("ExactName of 0 without names = %q, %v", name, ok)
		}
		if name, ok := impl.ExactName(fullFlag(bound), 2048); !ok || name != "l" {
			t.Errorf("ExactName of the last name = %q, %v", name, ok)
		}
		if name, ok := impl.ExactName(rests(bound), 0); !ok || name != "off" {
			t.Errorf("ExactName of nothing = %q, %v", name, ok)
		}
	}
}

func TestShowEnum(t *testing.T) {
	for _, k := range []struct {
		n    int
		want string
	}{
		{3, "red"}, {-2, "blue"}, {0, "off"}, {1, "1"}, {2, "2"}, {4, "4"}, {10, "10"}, {-1, "-1"}, {-3, "-3"}, {-20, "-20"},
		{999, "999"}, {1000, "1000"}, {-999, "-999"}, {-1000, "-1000"},
		{1001, ""}, {-1001, ""}, {4095, ""}, {math.MaxInt, ""}, {math.MinInt, ""}, {-math.MaxInt, ""},
	} {
		if s := impl.ShowEnum(colours(), k.n); s != k.want {
			t.Errorf("ShowEnum(%d) = %q", k.n, s)
		}
	}
	limits := enumOf(-1000, 1000, 1000, -1000)
	for n, want := range map[int]string{-1001: "", -1000: "a", -999: "-999", 0: "0", 999: "999", 1000: "b", 1001: ""} {
		if s := impl.ShowEnum(limits, n); s != want {
			t.Errorf("ShowEnum(%v, %d) = %q", limits, n, s)
		}
	}
	for n, want := range map[int]string{-1001: "", -1000: "-1000", -7: "-7", 0: "0", 1000: "1000", 1001: ""} {
		if s := impl.ShowEnum(impl.Enum{}, n); s != want {
			t.Errorf("ShowEnum without names of %d = %q", n, s)
		}
	}
	if s := impl.ShowEnum(fullEnum(), 12); s != "l" {
		t.Errorf("ShowEnum of the last name = %q", s)
	}
}

func TestShowOfNumbersThatAreNoValues(t *testing.T) {
	for _, f := range append(smallFlags(), flagsOfRests()...) {
		for _, n := range nonValues(f) {
			checkNoText(t, f, n)
		}
	}
}

// checkNoText checks that a number that is no value has the fixed results.
func checkNoText(t *testing.T, f impl.Flag, n int) {
	t.Helper()
	checkShow(t, f, showCase{a: n})
	if impl.FittingNames(f, n) != nil || impl.ShortNames(f, n) != nil {
		t.Errorf("%v: FittingNames(%d) = %q, ShortNames = %q", f, n, impl.FittingNames(f, n), impl.ShortNames(f, n))
	}
	if name, ok := impl.ExactName(f, n); ok || name != "" {
		t.Errorf("ExactName(%v, %d) = %q, %v", f, n, name, ok)
	}
}

func TestShowOfInvalidFlags(t *testing.T) {
	for _, f := range invalidFlags() {
		for _, n := range []int{math.MinInt, -1, 0, 1, 2, 4, 7, 4095, 4096, math.MaxInt} {
			checkNoText(t, f, n)
		}
		for _, d := range f.Defs {
			checkNoText(t, f, d.Value)
		}
		for _, s := range append(namesOfFlag(f), "", "0", "1", "2", "a", "a|1", "in", "none", "4095", "mark") {
			checkRead(t, f, s, 0, false)
		}
	}
}

func TestShowEnumOfInvalidEnumerations(t *testing.T) {
	for _, e := range invalidEnums() {
		numbers := []int{math.MinInt, -1001, -1000, -2, 0, 1, 4, 1000, 1001, math.MaxInt}
		for _, d := range e.Defs {
			numbers = append(numbers, d.Value)
		}
		for _, n := range numbers {
			if s := impl.ShowEnum(e, n); s != "" {
				t.Errorf("ShowEnum(%v, %d) = %q", e, n, s)
			}
		}
	}
}
