package tests

import (
	"math"
	"slices"
	"testing"

	"loop.example/namedflags/impl"
)

// convertArgs are the arguments of the functions of chapter 7.
type convertArgs struct {
	a, b    impl.Enum
	f, g    impl.Flag
	names   []string
	list    []impl.Def
	numbers []int
	s       string
	n       int
}

// convertCalls are the functions of chapter 7; each overwrites the result and returns what it was.
var convertCalls = map[string]func(x convertArgs) []any{
	"ByName": func(x convertArgs) []any {
		name, ok := impl.ByName(x.a, x.b, x.s)
		return []any{name, ok}
	},
	"ByValue": func(x convertArgs) []any {
		name, ok := impl.ByValue(x.a, x.b, x.s)
		return []any{name, ok}
	},
	"Renumber": func(x convertArgs) []any { return takenEnum(impl.Renumber(x.a), true) },
	"FlagOf":   func(x convertArgs) []any { return takenFlag(impl.FlagOf(x.a), true) },
	"EnumOf":   func(x convertArgs) []any { return takenEnum(impl.EnumOf(x.f), true) },
	"SetOf": func(x convertArgs) []any {
		n, ok := impl.SetOf(x.a, x.names)
		return []any{n, ok}
	},
	"MembersIn": func(x convertArgs) []any { return taken(impl.MembersIn(x.a, x.n), "taken") },
	"ConvertValue": func(x convertArgs) []any {
		n, ok := impl.ConvertValue(x.f, x.g, x.n)
		return []any{n, ok}
	},
	"TableOf": func(x convertArgs) []any {
		numbers, ok := impl.TableOf(x.a, x.list)
		return append(taken(numbers, math.MaxInt), ok)
	},
	"LookUp": func(x convertArgs) []any {
		n, ok := impl.LookUp(x.a, x.numbers, x.s)
		return []any{n, ok}
	},
	"Revalue": func(x convertArgs) []any { return takenEnum(impl.Revalue(x.a, x.numbers)) },
}

// kept returns a copy of an argument with marks in its spare capacity, and a check of whether all of its memory is as it was.
func kept[T comparable](list []T, mark T) ([]T, func() bool) {
	short, all := spare(list, mark)
	was := slices.Clone(all)
	return short, func() bool { return slices.Equal(all, was) }
}

// checkConvertCalls calls all functions twice and checks that what they return is not what they were given.
// The arguments have spare capacity, with marks in it.
func checkConvertCalls(t *testing.T, x convertArgs) {
	t.Helper()
	checks := make([]func() bool, 7)
	x.a.Defs, checks[0] = kept(x.a.Defs, markDef)
	x.b.Defs, checks[1] = kept(x.b.Defs, markDef)
	x.f.Defs, checks[2] = kept(x.f.Defs, markDef)
	x.g.Defs, checks[3] = kept(x.g.Defs, markDef)
	x.names, checks[4] = kept(x.names, "mark")
	x.list, checks[5] = kept(x.list, markDef)
	x.numbers, checks[6] = kept(x.numbers, 77)
	for name, call := range convertCalls {
		quietly(t, name, func() {
			first, second := call(x), call(x)
			if !slices.Equal(first, second) {
				t.Fatalf("%s(%v) = %v, and then %v", name, x, first, second)
			}
		})
		for _, same := range checks {
			if !same() {
				t.Fatalf("%s(%v) writes into an argument, or shares memory with it", name, x)
			}
		}
	}
}

func TestNoPanicAndNoWriteInChapter7(t *testing.T) {
	enums := append(invalidEnums(), impl.Enum{}, defs([]impl.Def{}...), colours(), tones(), fullEnum(), enumOf(0), enumOf(5, 5, 5), enumOf(1000, -1000))
	flags := append(invalidFlags(), impl.Flag{}, doors(impl.BdStrict), rests(impl.BdKeep), fullFlag(impl.BdFit), impl.Flag{Bound: impl.BdKeep})
	names := append([][]string{nil, {}, {"a"}, {"red", "bleu"}, {"mark"}, {""}, slices.Repeat([]string{"a"}, 1000)}, strangeNames)
	lists := [][]impl.Def{nil, {}, {def("a", 1)}, {def("a", 1), def("a", 1)}, {def("off", 1), def("rot", 2), def("bleu", 3)}, {def("", 0)}, {markDef}, fullEnum().Defs, make([]impl.Def, 1000)}
	numbers := [][]int{nil, {}, {0}, {1, 2, 3}, {1, 2, 3, 4}, {1001}, {math.MinInt, math.MaxInt}, edgeNumbers, make([]int, impl.MaxItems), make([]int, impl.MaxItems+1), make([]int, 5000)}
	texts := append([]string{"a", "red", "mark", string(make([]byte, 5000))}, oddNames...)
	g := generator(36)
	for _, a := range enums {
		for _, n := range edgeNumbers {
			checkConvertCalls(t, convertArgs{
				a, enums[g.below(len(enums))], flags[g.below(len(flags))], flags[g.below(len(flags))],
				names[g.below(len(names))], lists[g.below(len(lists))], numbers[g.below(len(numbers))], texts[g.below(len(texts))], n,
			})
		}
		for _, row := range numbers {
			checkConvertCalls(t, convertArgs{a: a, b: a, names: namesOf(a), list: a.Defs, numbers: row, s: "a"})
		}
	}
	for _, f := range flags {
		for _, n := range edgeNumbers {
			checkConvertCalls(t, convertArgs{f: f, g: flags[g.below(len(flags))], n: n})
		}
	}
}

func TestNoSharingInChapter7(t *testing.T) {
	g := generator(37)
	tables(func(e impl.Enum, list []impl.Def) {
		b := someEnum(&g)
		numbers, _ := plainTable(e, list)
		f := impl.Flag{Defs: plainByRanks(e, powers(e)), Bound: g.below(4)}
		checkConvertCalls(t, convertArgs{a: e, b: b, f: f, g: f, names: namesOf(e), list: list, numbers: numbers, s: "a", n: g.below(1 << len(plainMembers(e)))})
	})
	calls := 0
	conversions(func(f, other impl.Flag, a int) {
		if calls++; calls%4 == 0 {
			checkConvertCalls(t, convertArgs{f: f, g: other, n: a})
		}
	})
}

// TestMarksAreLeftOutOfConversions checks that what lies behind the arguments is no part of them.
func TestMarksAreLeftOutOfConversions(t *testing.T) {
	list, _ := spare([]impl.Def{def("a", 2), def("b", 4), def("c", 2)}, def("d", 8))
	e := impl.Enum{Defs: list}
	f := impl.Flag{Defs: list}
	checkByName(t, e, enumOf(1, 2, 3, 8), noNames("d"))
	checkByName(t, enumOf(1, 2, 3, 8), e, noNames("d"))
	checkByValue(t, enumOf(8), e, noNames("a"))
	if !sameEnum(impl.Renumber(e), enumOf(0, 1, 0)) || !sameFlag(impl.FlagOf(e), flagOf(impl.BdStrict, 1, 2, 1)) || !sameEnum(impl.EnumOf(f), enumOf(1, 2, 1)) {
		t.Errorf("Renumber(%v) = %v, FlagOf = %v, EnumOf = %v", e, impl.Renumber(e), impl.FlagOf(e), impl.EnumOf(f))
	}
	names, _ := spare([]string{"c"}, "b")
	if n, ok := impl.SetOf(e, names); !ok || n != 1 {
		t.Errorf("SetOf(%v, %q) = %d, %v", e, names, n, ok)
	}
	checkConvert(t, f, f, 6, 6)
	checkConvert(t, fullFlag(impl.BdStrict), f, 8, -1)
	missing, _ := spare([]impl.Def{def("c", 7)}, def("b", 8))
	checkNoTable(t, e, missing)
	all, _ := spare([]impl.Def{def("b", 8), def("c", 7)}, def("a", 7))
	checkTable(t, e, all, 7, 8)
	short, _ := spare([]int{7}, 8)
	checkNoRows(t, e, short)
	exact, _ := spare([]int{7, 8}, 1001)
	checkLookUp(t, e, exact, map[string]int{"a": 7, "b": 8, "c": 7})
	checkNoNumber(t, e, exact, "d")
}
