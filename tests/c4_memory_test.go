package tests

import (
	"math"
	"slices"
	"testing"

	"loop.example/namedflags/impl"
)

// algebraArgs are the arguments of the functions of chapter 4.
type algebraArgs struct {
	f    impl.Flag
	a, b int
	list []string
}

// algebraCalls are the functions of chapter 4; each overwrites the result and returns what it was.
var algebraCalls = map[string]func(x algebraArgs) []any{
	"OrValues":      func(x algebraArgs) []any { return []any{impl.OrValues(x.f, x.a, x.b)} },
	"AndValues":     func(x algebraArgs) []any { return []any{impl.AndValues(x.f, x.a, x.b)} },
	"XorValues":     func(x algebraArgs) []any { return []any{impl.XorValues(x.f, x.a, x.b)} },
	"LessValues":    func(x algebraArgs) []any { return []any{impl.LessValues(x.f, x.a, x.b)} },
	"InvertValue":   func(x algebraArgs) []any { return []any{impl.InvertValue(x.f, x.a)} },
	"HasAll":        func(x algebraArgs) []any { return []any{impl.HasAll(x.f, x.a, x.b)} },
	"NamesIn":       func(x algebraArgs) []any { return taken(impl.NamesIn(x.f, x.a), "taken") },
	"RestIn":        func(x algebraArgs) []any { return []any{impl.RestIn(x.f, x.a)} },
	"CountBits":     func(x algebraArgs) []any { return []any{impl.CountBits(x.f, x.a)} },
	"CompareValues": func(x algebraArgs) []any { return []any{impl.CompareValues(x.f, x.a, x.b)} },
	"PartsOf":       func(x algebraArgs) []any { return taken(impl.PartsOf(x.f, x.a), math.MaxInt) },
	"FromNames": func(x algebraArgs) []any {
		n, ok := impl.FromNames(x.f, x.list)
		return []any{n, ok}
	},
}

// checkAlgebraCalls calls all functions twice and checks that what they return is not what they were given.
// The arguments have spare capacity, with marks in it.
func checkAlgebraCalls(t *testing.T, x algebraArgs) {
	t.Helper()
	var defs []impl.Def
	var names []string
	x.f.Defs, defs = spare(x.f.Defs, markDef)
	x.list, names = spare(x.list, "mark")
	defsWere, namesWere := slices.Clone(defs), slices.Clone(names)
	for name, call := range algebraCalls {
		quietly(t, name, func() {
			first, second := call(x), call(x)
			if !slices.Equal(first, second) {
				t.Fatalf("%s(%v) = %v, and then %v", name, x, first, second)
			}
		})
		if !slices.Equal(defs, defsWere) || !slices.Equal(names, namesWere) {
			t.Fatalf("%s(%v) writes into an argument, or shares memory with it", name, x)
		}
	}
}

func TestNoPanicAndNoWriteInChapter4(t *testing.T) {
	flags := append(invalidFlags(), impl.Flag{}, doors(impl.BdStrict), doors(impl.BdKeep), fullFlag(impl.BdFit), impl.Flag{Bound: impl.BdKeep})
	lists := [][]string{nil, {}, {"a"}, {"in", "wide"}, {"mark"}, {""}, oddNames, namesOf(fullEnum()), slices.Repeat([]string{"in"}, 1000)}
	for _, f := range flags {
		for i, a := range edgeNumbers {
			for _, b := range []int{math.MinInt, -1, 0, 6, 4096, a} {
				checkAlgebraCalls(t, algebraArgs{f: f, a: a, b: b, list: lists[i%len(lists)]})
			}
		}
	}
}

func TestNoSharingInChapter4(t *testing.T) {
	g := generator(16)
	values(func(f impl.Flag, a int) {
		checkAlgebraCalls(t, algebraArgs{f: f, a: a, b: someValue(&g, f), list: namesOfFlag(f)})
	})
	nameLists(func(f impl.Flag, list []string) {
		checkAlgebraCalls(t, algebraArgs{f: f, a: someValue(&g, f), b: g.below(impl.MaxFlag + 1), list: list})
	})
}

// TestMarksAreLeftOutOfTheAlgebra checks that what lies behind the definitions and the names is no part of them.
func TestMarksAreLeftOutOfTheAlgebra(t *testing.T) {
	list, _ := spare([]impl.Def{def("a", 2), def("b", 5)}, def("c", 8))
	names, _ := spare([]string{"b"}, "a")
	f := impl.Flag{Defs: list}
	if impl.OrValues(f, 8, 0) != -1 || impl.InvertValue(f, 0) != 7 || impl.NamesIn(f, 15) != nil || impl.RestIn(f, 7) != 5 {
		t.Errorf("%v: InvertValue(0) = %d, RestIn(7) = %d", f, impl.InvertValue(f, 0), impl.RestIn(f, 7))
	}
	if n, ok := impl.FromNames(f, names); !ok || n != 5 {
		t.Errorf("FromNames(%v, %q) = %d, %v", f, names, n, ok)
	}
	if n, ok := impl.FromNames(f, []string{"c"}); ok || n != 0 {
		t.Errorf("FromNames(%v) of a name behind the definitions = %d, %v", f, n, ok)
	}
}
