package tests

import (
	"math"
	"slices"
	"testing"

	"loop.example/namedflags/impl"
)

// takenFlag returns what is told of a class of flags, which it overwrites.
func takenFlag(f impl.Flag, ok bool) []any {
	return append(taken(f.Defs, markDef), f.Bound, ok)
}

// flagCalls are the functions of chapter 3 for a class; each overwrites the result and returns what it was.
var flagCalls = map[string]func(f impl.Flag, n int) []any{
	"ValidFlag":  func(f impl.Flag, n int) []any { return []any{impl.ValidFlag(f)} },
	"MaskOf":     func(f impl.Flag, n int) []any { return []any{impl.MaskOf(f)} },
	"SinglesOf":  func(f impl.Flag, n int) []any { return taken(impl.SinglesOf(f), "mark") },
	"ComposedOf": func(f impl.Flag, n int) []any { return taken(impl.ComposedOf(f), "mark") },
	"LooseBits":  func(f impl.Flag, n int) []any { return []any{impl.LooseBits(f)} },
	"HighOf":     func(f impl.Flag, n int) []any { return []any{impl.HighOf(f)} },
	"MakeValue": func(f impl.Flag, n int) []any {
		value, how := impl.MakeValue(f, n)
		return []any{value, how}
	},
	"IsValue":   func(f impl.Flag, n int) []any { return []any{impl.IsValue(f, n)} },
	"WithBound": func(f impl.Flag, n int) []any { return takenFlag(impl.WithBound(f, n)) },
}

// checkFlagCalls calls all functions twice and checks that what they return is not what they were given.
// The class has spare capacity, with marks in it.
func checkFlagCalls(t *testing.T, f impl.Flag, n int) {
	t.Helper()
	defs, all := spare(f.Defs, markDef)
	before := slices.Clone(all)
	for name, call := range flagCalls {
		quietly(t, name, func() {
			first := call(impl.Flag{Defs: defs, Bound: f.Bound}, n)
			second := call(impl.Flag{Defs: defs, Bound: f.Bound}, n)
			if !slices.Equal(first, second) {
				t.Fatalf("%s(%v, %d) = %v, and then %v", name, f, n, first, second)
			}
		})
		if !slices.Equal(all, before) {
			t.Fatalf("%s(%v, %d) writes into its argument, or shares memory with it", name, f, n)
		}
	}
}

func TestNoPanicAndNoWriteInChapter3(t *testing.T) {
	for _, f := range append(invalidFlags(), doors(impl.BdStrict), doors(impl.BdKeep), fullFlag(impl.BdFit), impl.Flag{}) {
		for _, n := range edgeNumbers {
			checkFlagCalls(t, f, n)
		}
	}
	for _, f := range validFlags() {
		for _, n := range []int{-2, 0, 3, 5} {
			checkFlagCalls(t, f, n)
		}
	}
}

// TestMarksAreLeftOut checks that what lies behind the definitions is no part of them.
func TestMarksAreLeftOut(t *testing.T) {
	list, _ := spare([]impl.Def{def("a", 2), def("b", 5)}, def("c", 2048))
	f := impl.Flag{Defs: list, Bound: impl.BdKeep}
	if impl.MaskOf(f) != 7 || impl.HighOf(f) != 7 || impl.LooseBits(f) != 5 || len(impl.SinglesOf(f)) != 1 || len(impl.ComposedOf(f)) != 1 {
		t.Errorf("%v: MaskOf = %d, HighOf = %d", f, impl.MaskOf(f), impl.HighOf(f))
	}
}

func TestNoPanicAndNoWriteInBuildFlag(t *testing.T) {
	mark := impl.Item{Name: "mark", Auto: true, Value: 77}
	itemLists([]int{math.MinInt, -1, 0, 6, 2048, 4096, math.MaxInt}, func(told []impl.Item) {
		items, all := spare(told, mark)
		before := slices.Clone(all)
		for _, bound := range []int{impl.BdStrict, impl.BdKeep, -1, 4, math.MinInt, math.MaxInt} {
			quietly(t, "BuildFlag", func() {
				first := takenFlag(impl.BuildFlag(items, bound))
				second := takenFlag(impl.BuildFlag(items, bound))
				if !slices.Equal(first, second) {
					t.Fatalf("BuildFlag(%v, %d) = %v, and then %v", items, bound, first, second)
				}
			})
		}
		if !slices.Equal(all, before) {
			t.Fatalf("BuildFlag(%v) writes into its argument, or shares memory with it", told)
		}
	})
}
