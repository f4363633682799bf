package tests

import (
	"math"
	"slices"
	"testing"

	"loop.example/namedflags/impl"
)

func TestConstantsOfChapter3(t *testing.T) {
	if impl.MaxFlag != 4095 || impl.BdStrict != 0 || impl.BdFit != 1 || impl.BdEject != 2 || impl.BdKeep != 3 {
		t.Error("a limit or a bound has another value")
	}
	if impl.HwOk != 0 || impl.HwNumber != 1 || impl.HwWrong != 2 {
		t.Error("how a value is made has another value")
	}
}

func TestValidFlag(t *testing.T) {
	for _, f := range validFlags() {
		if !impl.ValidFlag(f) {
			t.Errorf("ValidFlag(%v) = false", f)
		}
	}
	for _, f := range []impl.Flag{{}, {Defs: []impl.Def{}}, flagOf(impl.BdKeep, 0), flagOf(0, 4095), flagOf(0, 0, 0, 4095, 4095), {Defs: []impl.Def{def("abcdef", 1)}}} {
		if !impl.ValidFlag(f) {
			t.Errorf("ValidFlag(%v) = false", f)
		}
	}
	for _, f := range invalidFlags() {
		if impl.ValidFlag(f) {
			t.Errorf("ValidFlag(%v) = true", f)
		}
	}
}

func TestValuesOfFlagsAreNotThoseOfEnums(t *testing.T) {
	if f := flagOf(0, 1001, 2000); !impl.ValidFlag(f) || impl.ValidEnum(impl.Enum{Defs: f.Defs}) {
		t.Errorf("%v is no class of flags, or an enumeration", f)
	}
	if f := flagOf(0, 1, -1); impl.ValidFlag(f) || !impl.ValidEnum(impl.Enum{Defs: f.Defs}) {
		t.Errorf("%v is a class of flags, or no enumeration", f)
	}
}

func TestBuildFlag(t *testing.T) {
	for _, k := range []struct {
		items []impl.Item
		want  []int
	}{
		{nil, nil},
		{[]impl.Item{}, nil},
		{[]impl.Item{auto("a")}, []int{1}},
		{[]impl.Item{own("a", 0)}, []int{0}},
		{[]impl.Item{own("a", 4095)}, []int{4095}},
		{[]impl.Item{auto("a"), auto("b"), auto("c")}, []int{1, 2, 4}},
		{[]impl.Item{own("a", 0), auto("b")}, []int{0, 1}},
		{[]impl.Item{own("a", 0), own("b", 0), auto("c"), auto("d")}, []int{0, 0, 1, 2}},
		{[]impl.Item{own("a", 1), auto("b")}, []int{1, 2}},
		{[]impl.Item{own("a", 3), auto("b")}, []int{3, 4}},
		{[]impl.Item{own("a", 4), auto("b")}, []int{4, 8}},
		{[]impl.Item{own("a", 9), auto("b"), auto("c")}, []int{9, 16, 32}},
		{[]impl.Item{own("a", 8), own("b", 2), auto("c")}, []int{8, 2, 16}},
		{[]impl.Item{own("a", 2), own("b", 13), own("c", 1), auto("d"), own("e", 5), auto("f")}, []int{2, 13, 1, 16, 5, 32}},
		{[]impl.Item{own("a", 1023), auto("b"), auto("c")}, []int{1023, 1024, 2048}},
		{[]impl.Item{own("a", 1024), auto("b")}, []int{1024, 2048}},
		{[]impl.Item{own("a", 2047), auto("b")}, []int{2047, 2048}},
		{autos(impl.MaxItems), []int{1, 2, 4, 8, 16, 32, 64, 128, 256, 512, 1024, 2048}},
	} {
		for _, bound := range allBounds {
			if f, ok := impl.BuildFlag(k.items, bound); !ok || !sameFlag(f, flagOf(bound, k.want...)) {
				t.Errorf("BuildFlag(%v, %d) = %v, %v", k.items, bound, f, ok)
			}
		}
		for _, bound := range oddBounds {
			f, ok := impl.BuildFlag(k.items, bound)
			checkNoFlag(t, "BuildFlag with a bound that is none", f, ok)
		}
	}
}

// checkNoFlag checks that a result is the zero value and false.
func checkNoFlag(t *testing.T, what string, f impl.Flag, ok bool) {
	t.Helper()
	if ok || f.Defs != nil || f.Bound != 0 {
		t.Errorf("%s = %v, %v", what, f, ok)
	}
}

func TestBuildFlagOfInvalidItems(t *testing.T) {
	lists := [][]impl.Item{
		{{Name: "a", Auto: true, Value: 1}},
		{{Name: "a", Auto: true, Value: -1}},
		{own("a", 1), {Name: "b", Auto: true, Value: 2}},
		{own("a", 4), {Name: "b", Auto: true, Value: math.MinInt}},
		{own("a", 2048), auto("b")},
		{own("a", 2049), auto("b")},
		{own("a", 4095), auto("b")},
		{own("a", 4095), own("b", 1), auto("c")},
		{own("a", 1024), auto("b"), auto("c")},
		{own("a", 4096)},
		{own("a", 4096), auto("b")},
		{own("a", -1)},
		{own("a", -1), auto("b")},
		{own("a", math.MaxInt), auto("b"), auto("c")},
		{own("a", math.MinInt), auto("b"), auto("c")},
		{auto("a"), auto("a")},
		{auto("a"), own("b", 3), own("a", 1)},
		autos(impl.MaxItems + 1),
		append(autos(impl.MaxItems), own("m", 0)),
		make([]impl.Item, 1000),
	}
	for _, s := range oddNames {
		lists = append(lists, []impl.Item{auto(s)}, []impl.Item{auto("a"), own(s, 7)})
	}
	for _, list := range invalidLists() {
		lists = append(lists, itemsOf(impl.Enum{Defs: list}))
	}
	for _, items := range lists {
		for _, bound := range append(allBounds[:4:4], oddBounds...) {
			f, ok := impl.BuildFlag(items, bound)
			checkNoFlag(t, "BuildFlag of items that are not valid", f, ok)
		}
	}
}

func TestBitsOfFlags(t *testing.T) {
	for _, k := range []struct {
		f                 impl.Flag
		mask, loose, high int
		singles, composed []string
	}{
		{impl.Flag{}, 0, 0, 0, nil, nil},
		{impl.Flag{Defs: []impl.Def{}, Bound: impl.BdKeep}, 0, 0, 0, nil, nil},
		{flagOf(0, 0), 0, 0, 0, nil, nil},
		{flagOf(0, 0, 0), 0, 0, 0, nil, nil},
		{flagOf(0, 1), 1, 0, 1, []string{"a"}, nil},
		{flagOf(0, 2), 2, 0, 3, []string{"a"}, nil},
		{flagOf(0, 2048), 2048, 0, 4095, []string{"a"}, nil},
		{flagOf(0, 4095), 4095, 4095, 4095, nil, []string{"a"}},
		{flagOf(0, 5), 5, 5, 7, nil, []string{"a"}},
		{flagOf(0, 5, 4), 5, 1, 7, []string{"b"}, []string{"a"}},
		{flagOf(0, 4, 3, 1), 7, 2, 7, []string{"c", "a"}, []string{"b"}},
		{flagOf(0, 3, 1, 2), 3, 0, 3, []string{"b", "c"}, []string{"a"}},
		{flagOf(0, 6, 12, 6, 0, 12), 14, 14, 15, nil, []string{"a", "b", "c", "e"}},
		{flagOf(0, 8, 1, 8, 1, 2), 11, 0, 15, []string{"b", "e", "a"}, nil},
		{flagOf(0, 2048, 3), 2051, 3, 4095, []string{"a"}, []string{"b"}},
		{flagOf(0, 1, 2050), 2051, 2050, 4095, []string{"a"}, []string{"b"}},
		{doors(0), 334, 72, 511, []string{"out", "in", "lock"}, []string{"both", "wide", "pair"}},
		{fullFlag(0), 4095, 0, 4095, namesOf(fullEnum()), nil},
	} {
		for _, bound := range allBounds {
			f := impl.Flag{Defs: k.f.Defs, Bound: bound}
			if impl.MaskOf(f) != k.mask || impl.LooseBits(f) != k.loose || impl.HighOf(f) != k.high {
				t.Errorf("%v: MaskOf = %d, LooseBits = %d, HighOf = %d", f, impl.MaskOf(f), impl.LooseBits(f), impl.HighOf(f))
			}
			if !slices.Equal(impl.SinglesOf(f), k.singles) || !slices.Equal(impl.ComposedOf(f), k.composed) {
				t.Errorf("%v: SinglesOf = %q, ComposedOf = %q", f, impl.SinglesOf(f), impl.ComposedOf(f))
			}
		}
	}
}

func TestBitsOfAllFlags(t *testing.T) {
	for _, f := range validFlags() {
		mask, singles := plainMask(f.Defs), plainSingles(f.Defs)
		if impl.MaskOf(f) != mask || impl.LooseBits(f) != mask-plainMask(singles) || impl.HighOf(f) != plainHigh(mask) {
			t.Fatalf("%v: MaskOf = %d, LooseBits = %d, HighOf = %d", f, impl.MaskOf(f), impl.LooseBits(f), impl.HighOf(f))
		}
		var composed []string
		for _, d := range f.Defs {
			if len(bitsOf(d.Value)) > 1 {
				composed = append(composed, d.Name)
			}
		}
		if !slices.Equal(impl.SinglesOf(f), namesOf(defs(singles...))) || !slices.Equal(impl.ComposedOf(f), composed) {
			t.Fatalf("%v: SinglesOf = %q, ComposedOf = %q", f, impl.SinglesOf(f), impl.ComposedOf(f))
		}
	}
}

// makeCase is a number with what it makes.
type makeCase struct{ n, want, how int }

// checkMakes checks what numbers make with a class.
func checkMakes(t *testing.T, f impl.Flag, list []makeCase) {
	t.Helper()
	for _, k := range list {
		if n, how := impl.MakeValue(f, k.n); n != k.want || how != k.how {
			t.Errorf("MakeValue(%v, %d) = %d, %d", f, k.n, n, how)
		}
	}
}

func TestMakeValueWithEachBound(t *testing.T) {
	// The mask is 334: the bits 2, 4, 8, 64 and 256. The numbers are named bits, two with others, and those beyond.
	named := []makeCase{{0, 0, impl.HwOk}, {2, 2, impl.HwOk}, {8, 8, impl.HwOk}, {72, 72, impl.HwOk}, {334, 334, impl.HwOk}}
	beyond := []makeCase{{-4097, 0, impl.HwWrong}, {4096, 0, impl.HwWrong}, {4098, 0, impl.HwWrong}, {math.MinInt, 0, impl.HwWrong}, {math.MaxInt, 0, impl.HwWrong}}
	for _, bound := range allBounds {
		checkMakes(t, doors(bound), named)
		checkMakes(t, doors(bound), beyond)
	}
	checkMakes(t, doors(impl.BdStrict), []makeCase{{1, 0, impl.HwWrong}, {3, 0, impl.HwWrong}, {512, 0, impl.HwWrong}, {4095, 0, impl.HwWrong}})
	checkMakes(t, doors(impl.BdFit), []makeCase{{1, 0, impl.HwOk}, {3, 2, impl.HwOk}, {512, 0, impl.HwOk}, {4095, 334, impl.HwOk}})
	checkMakes(t, doors(impl.BdEject), []makeCase{{1, 1, impl.HwNumber}, {3, 3, impl.HwNumber}, {512, 512, impl.HwNumber}, {4095, 4095, impl.HwNumber}})
	checkMakes(t, doors(impl.BdKeep), []makeCase{{1, 1, impl.HwOk}, {3, 3, impl.HwOk}, {512, 512, impl.HwOk}, {4095, 4095, impl.HwOk}})
}

func TestMakeValueBelow0(t *testing.T) {
	for _, bound := range []int{impl.BdStrict, impl.BdFit, impl.BdEject} {
		checkMakes(t, doors(bound), []makeCase{
			{-1, 334, impl.HwOk}, {-2, 334, impl.HwOk}, {-3, 332, impl.HwOk}, {-4, 332, impl.HwOk}, {-335, 0, impl.HwOk},
			{-512, 0, impl.HwOk}, {-513, 334, impl.HwOk}, {-4095, 0, impl.HwOk}, {-4096, 0, impl.HwOk}, {-4097, 0, impl.HwWrong},
		})
	}
	checkMakes(t, doors(impl.BdKeep), []makeCase{
		{-1, 511, impl.HwOk}, {-2, 510, impl.HwOk}, {-3, 509, impl.HwOk}, {-4, 508, impl.HwOk}, {-335, 177, impl.HwOk},
		{-512, 0, impl.HwOk}, {-513, 511, impl.HwOk}, {-4095, 1, impl.HwOk}, {-4096, 0, impl.HwOk}, {-4097, 0, impl.HwWrong},
	})
	// With a name for each bit nothing of an inverted number is left out, whatever the bound.
	for _, bound := range allBounds {
		checkMakes(t, fullFlag(bound), []makeCase{{-1, 4095, impl.HwOk}, {-2049, 2047, impl.HwOk}, {-4095, 1, impl.HwOk}, {-4096, 0, impl.HwOk}, {-4097, 0, impl.HwWrong}})
		checkMakes(t, fullFlag(bound), []makeCase{{4095, 4095, impl.HwOk}, {4096, 0, impl.HwWrong}})
	}
}

func TestMakeValueWithoutNames(t *testing.T) {
	for _, list := range [][]impl.Def{nil, {}, {def("a", 0)}} {
		for _, bound := range allBounds {
			f := impl.Flag{Defs: list, Bound: bound}
			checkMakes(t, f, []makeCase{{0, 0, impl.HwOk}, {-1, 0, impl.HwOk}, {-2, 0, impl.HwOk}, {-4096, 0, impl.HwOk}, {-4097, 0, impl.HwWrong}, {4096, 0, impl.HwWrong}})
		}
		for _, n := range []int{1, 2, 4095} {
			checkMakes(t, impl.Flag{Defs: list}, []makeCase{{n, 0, impl.HwWrong}})
			checkMakes(t, impl.Flag{Defs: list, Bound: impl.BdFit}, []makeCase{{n, 0, impl.HwOk}})
			checkMakes(t, impl.Flag{Defs: list, Bound: impl.BdEject}, []makeCase{{n, n, impl.HwNumber}})
			checkMakes(t, impl.Flag{Defs: list, Bound: impl.BdKeep}, []makeCase{{n, n, impl.HwOk}})
		}
	}
}

func TestIsValue(t *testing.T) {
	for _, k := range []struct {
		n          int
		named, any bool
	}{
		{0, true, true}, {2, true, true}, {8, true, true}, {64, true, true}, {72, true, true}, {334, true, true},
		{1, false, true}, {3, false, true}, {512, false, true}, {335, false, true}, {4095, false, true},
		{-1, false, false}, {-335, false, false}, {-4096, false, false}, {4096, false, false}, {4098, false, false},
		{math.MinInt, false, false}, {math.MaxInt, false, false},
	} {
		for _, bound := range allBounds {
			want := k.named
			if bound == impl.BdKeep {
				want = k.any
			}
			if impl.IsValue(doors(bound), k.n) != want {
				t.Errorf("IsValue(%v, %d) = %v", doors(bound), k.n, !want)
			}
		}
	}
	for _, bound := range allBounds {
		none := impl.Flag{Bound: bound}
		if !impl.IsValue(none, 0) || impl.IsValue(none, 1) != (bound == impl.BdKeep) || impl.IsValue(none, -1) {
			t.Errorf("IsValue(%v)", none)
		}
		if !impl.IsValue(fullFlag(bound), 4095) || impl.IsValue(fullFlag(bound), 4096) {
			t.Errorf("IsValue(%v)", fullFlag(bound))
		}
	}
}

func TestWithBound(t *testing.T) {
	for _, list := range [][]impl.Def{nil, {}, {def("a", 0)}, doors(0).Defs, fullFlag(0).Defs} {
		for _, from := range allBounds {
			f := impl.Flag{Defs: list, Bound: from}
			for _, bound := range allBounds {
				if g, ok := impl.WithBound(f, bound); !ok || !sameFlag(g, impl.Flag{Defs: list, Bound: bound}) {
					t.Errorf("WithBound(%v, %d) = %v, %v", f, bound, g, ok)
				}
			}
			for _, bound := range oddBounds {
				g, ok := impl.WithBound(f, bound)
				checkNoFlag(t, "WithBound of a bound that is none", g, ok)
			}
		}
	}
}

func TestInvalidFlags(t *testing.T) {
	for _, f := range invalidFlags() {
		if impl.MaskOf(f) != -1 || impl.LooseBits(f) != -1 || impl.HighOf(f) != -1 {
			t.Errorf("%v: MaskOf = %d, LooseBits = %d, HighOf = %d", f, impl.MaskOf(f), impl.LooseBits(f), impl.HighOf(f))
		}
		if impl.SinglesOf(f) != nil || impl.ComposedOf(f) != nil {
			t.Errorf("%v: SinglesOf = %q, ComposedOf = %q", f, impl.SinglesOf(f), impl.ComposedOf(f))
		}
		for _, n := range edgeNumbers {
			if value, how := impl.MakeValue(f, n); value != 0 || how != impl.HwWrong || impl.IsValue(f, n) {
				t.Errorf("%v: MakeValue(%d) = %d, %d, IsValue = %v", f, n, value, how, impl.IsValue(f, n))
			}
		}
		for _, bound := range append(allBounds[:4:4], oddBounds...) {
			g, ok := impl.WithBound(f, bound)
			checkNoFlag(t, "WithBound of a class that is not valid", g, ok)
		}
	}
}
