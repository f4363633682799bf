package tests

import (
	"math"
	"slices"
	"testing"

	"loop.example/namedflags/impl"
)

// spare returns a copy of a list with a mark in its spare capacity, and all of the memory that it has.
func spare[T any](list []T, mark T) ([]T, []T) {
	all := append(slices.Clone(list), mark, mark)
	return all[:len(list)], all
}

// overwrite writes a mark into all of the memory that a list has.
func overwrite[T any](list []T, mark T) {
	all := list[:cap(list)]
	for i := range all {
		all[i] = mark
	}
}

// enumCalls are the functions of the chapter for an enumeration; each overwrites the result and returns what it was.
var enumCalls = map[string]func(e impl.Enum, s string, n int) []any{
	"ValidEnum": func(e impl.Enum, s string, n int) []any { return []any{impl.ValidEnum(e)} },
	"IsUnique":  func(e impl.Enum, s string, n int) []any { return []any{impl.IsUnique(e)} },
	"RankOf":    func(e impl.Enum, s string, n int) []any { return []any{impl.RankOf(e, s)} },
	"ValueOf": func(e impl.Enum, s string, n int) []any {
		value, ok := impl.ValueOf(e, s)
		return []any{value, ok}
	},
	"NameOf": func(e impl.Enum, s string, n int) []any {
		name, ok := impl.NameOf(e, n)
		return []any{name, ok}
	},
	"NextMember": func(e impl.Enum, s string, n int) []any {
		name, ok := impl.NextMember(e, s)
		return []any{name, ok}
	},
	"MembersOf":  func(e impl.Enum, s string, n int) []any { return taken(impl.MembersOf(e), "mark") },
	"OtherNames": func(e impl.Enum, s string, n int) []any { return taken(impl.OtherNames(e, s), "mark") },
	"GapsOf":     func(e impl.Enum, s string, n int) []any { return taken(impl.GapsOf(e), math.MaxInt) },
}

// taken returns the elements of a list, which it overwrites.
func taken[T any](list []T, mark T) []any {
	var was []any
	for _, x := range list {
		was = append(was, x)
	}
	overwrite(list, mark)
	return was
}

// quietly calls a function and fails the test if it panics.
func quietly(t *testing.T, name string, call func()) {
	t.Helper()
	defer func() {
		if r := recover(); r != nil {
			t.Errorf("%s panics: %v", name, r)
		}
	}()
	call()
}

func TestNoPanicAndNoWriteInChapter1(t *testing.T) {
	mark := impl.Def{Name: "mark", Value: 77}
	for _, e := range append(validEnums(), invalidEnums()...) {
		defs, all := spare(e.Defs, mark)
		before := slices.Clone(all)
		for _, s := range append(namesOf(e), "x", "", "\xff") {
			for _, n := range []int{-1, 0, 1, math.MinInt, math.MaxInt} {
				for name, call := range enumCalls {
					quietly(t, name, func() {
						first := call(impl.Enum{Defs: defs}, s, n)
						second := call(impl.Enum{Defs: defs}, s, n)
						if !slices.Equal(first, second) {
							t.Fatalf("%s(%v, %q, %d) = %v, and then %v", name, e, s, n, first, second)
						}
					})
					if !slices.Equal(all, before) {
						t.Fatalf("%s(%v, %q, %d) writes into its argument, or shares memory with it", name, e, s, n)
					}
				}
			}
		}
	}
}

func TestNoPanicInValidName(t *testing.T) {
	for _, s := range append(oddNames, "a", "abcdef", string(make([]byte, 5000))) {
		quietly(t, "ValidName", func() { impl.ValidName(s) })
	}
}

func TestNoPanicAndNoWriteInBuildEnum(t *testing.T) {
	mark := impl.Item{Name: "mark", Auto: true, Value: 77}
	values := []int{math.MinInt, -1001, -1000, 0, 1000, 1001, math.MaxInt}
	sequences(2*len(values), 3, func(list []int) {
		var told []impl.Item
		for i, k := range list {
			told = append(told, impl.Item{Name: letters[i : i+1], Auto: k%2 == 1, Value: values[k/2]})
		}
		items, all := spare(told, mark)
		before := slices.Clone(all)
		quietly(t, "BuildEnum", func() {
			e, ok := impl.BuildEnum(items)
			was := slices.Clone(e.Defs)
			overwrite(e.Defs, impl.Def{Name: "mark", Value: 77})
			again, same := impl.BuildEnum(items)
			if ok != same || !slices.Equal(again.Defs, was) {
				t.Fatalf("BuildEnum(%v) = %v, and then %v", items, was, again)
			}
		})
		if !slices.Equal(all, before) {
			t.Fatalf("BuildEnum(%v) writes into its argument, or shares memory with it", told)
		}
	})
}
