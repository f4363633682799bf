package tests

import (
	"math"
	"slices"
	"testing"

	"loop.example/namedflags/impl"
)

// changeArgs are the arguments of the functions of chapter 2.
type changeArgs struct {
	a, b impl.Enum
	list []impl.Change
	s    string
	n    int
}

var (
	markDef    = impl.Def{Name: "mark", Value: 77}
	markChange = impl.Change{Kind: impl.ChTurn, Name: "mark", Old: 77, New: 78}
)

// takenEnum returns what is told of an enumeration, which it overwrites.
func takenEnum(e impl.Enum, ok bool) []any {
	return append(taken(e.Defs, markDef), ok)
}

// changeCalls are the functions of chapter 2; each overwrites the result and returns what it was.
var changeCalls = map[string]func(x changeArgs) []any{
	"AddDef":       func(x changeArgs) []any { return takenEnum(impl.AddDef(x.a, impl.Def{Name: x.s, Value: x.n})) },
	"DropDef":      func(x changeArgs) []any { return takenEnum(impl.DropDef(x.a, x.s)) },
	"RenameDef":    func(x changeArgs) []any { return takenEnum(impl.RenameDef(x.a, x.s, "y")) },
	"RenameDef to": func(x changeArgs) []any { return takenEnum(impl.RenameDef(x.a, "a", x.s)) },
	"MergeEnums":   func(x changeArgs) []any { return takenEnum(impl.MergeEnums(x.a, x.b)) },
	"DiffEnums":    func(x changeArgs) []any { return taken(impl.DiffEnums(x.a, x.b), markChange) },
	"ApplyChanges": func(x changeArgs) []any { return takenEnum(impl.ApplyChanges(x.a, x.list)) },
	"TurnChanges":  func(x changeArgs) []any { return taken(impl.TurnChanges(x.list), markChange) },
	"SameMeaning":  func(x changeArgs) []any { return []any{impl.SameMeaning(x.a, x.b)} },
	"ReadsOld":     func(x changeArgs) []any { return []any{impl.ReadsOld(x.a, x.b)} },
	"SortEnum":     func(x changeArgs) []any { return takenEnum(impl.SortEnum(x.a), true) },
}

// checkCalls calls all functions twice and checks that what they return is not what they were given.
// The arguments have spare capacity, with marks in it.
func checkCalls(t *testing.T, x changeArgs) {
	t.Helper()
	var all, other []impl.Def
	var changes []impl.Change
	x.a.Defs, all = spare(x.a.Defs, markDef)
	x.b.Defs, other = spare(x.b.Defs, markDef)
	x.list, changes = spare(x.list, markChange)
	allWas, otherWas, changesWas := slices.Clone(all), slices.Clone(other), slices.Clone(changes)
	for name, call := range changeCalls {
		quietly(t, name, func() {
			first, second := call(x), call(x)
			if !slices.Equal(first, second) {
				t.Fatalf("%s(%v) = %v, and then %v", name, x, first, second)
			}
		})
		if !slices.Equal(all, allWas) || !slices.Equal(other, otherWas) || !slices.Equal(changes, changesWas) {
			t.Fatalf("%s(%v) writes into an argument, or shares memory with it", name, x)
		}
	}
}

// oddLists are lists of changes, most of which fit nothing.
func oddLists() [][]impl.Change {
	list := [][]impl.Change{nil, {}, slices.Repeat([]impl.Change{turning("a", 1, 1)}, impl.MaxChanges+1), make([]impl.Change, 1000)}
	for _, changes := range changesThatDoNotFit() {
		list = append(list, changes)
	}
	return list
}

func TestNoPanicAndNoWriteInChapter2(t *testing.T) {
	enums := append(invalidEnums(), impl.Enum{}, defs([]impl.Def{}...), colours(), fullEnum(), enumOf(0), enumOf(4, 0, 4), defs(def("c", 7), def("b", 0), def("x", 4)))
	lists := oddLists()
	g := generator(5)
	for _, a := range enums {
		for _, b := range enums {
			for _, s := range []string{"", "a", "x", "red", "\xff"} {
				n := []int{math.MinInt, -1001, 0, 4, 1000, math.MaxInt}[g.below(6)]
				checkCalls(t, changeArgs{a: a, b: b, list: lists[g.below(len(lists))], s: s, n: n})
			}
		}
		for _, list := range lists {
			checkCalls(t, changeArgs{a: a, b: colours(), list: list, s: "a", n: 1})
		}
	}
}

func TestNoSharingInChapter2(t *testing.T) {
	g := generator(6)
	pairs(func(a, b impl.Enum) {
		if g.below(8) > 0 {
			return
		}
		k := g.below(len(letters))
		checkCalls(t, changeArgs{a: a, b: b, list: impl.DiffEnums(a, b), s: letters[k : k+1], n: g.below(9) - 4})
	})
	step := 0
	walks(func(e impl.Enum, list []impl.Change, want impl.Enum, fits bool) {
		if step++; step%8 == 0 {
			checkCalls(t, changeArgs{a: e, b: want, list: list, s: "x", n: 4})
		}
	})
	for _, e := range validEnums() {
		checkCalls(t, changeArgs{a: e, b: e, s: "a", n: 1})
	}
}

func TestNoPanicInApplyChanges(t *testing.T) {
	numbers := []int{math.MinInt, 0, 4, math.MaxInt}
	names := []string{"", "a", "x"}
	kinds := []int{math.MinInt, -1, impl.ChAdd, impl.ChDrop, impl.ChTurn, 3, math.MaxInt}
	for _, kind := range kinds {
		for _, name := range names {
			for _, from := range numbers {
				for _, to := range numbers {
					c := impl.Change{Kind: kind, Name: name, Old: from, New: to}
					for _, e := range []impl.Enum{{}, enumOf(4, 0, 4), enumOf(0), fullEnum()} {
						checkChange(t, e, c)
					}
				}
			}
		}
	}
}

// checkChange checks what one change makes, and that nothing panics.
func checkChange(t *testing.T, e impl.Enum, c impl.Change) {
	t.Helper()
	quietly(t, "ApplyChanges", func() {
		want, fits := plainStep(e, c)
		if after, ok := impl.ApplyChanges(e, []impl.Change{c}); ok != fits || !sameEnum(after, want) {
			t.Fatalf("ApplyChanges(%v, %v) = %v, %v", e, c, after, ok)
		}
		checkCalls(t, changeArgs{a: e, b: e, list: []impl.Change{c}, s: c.Name, n: c.New})
	})
}
