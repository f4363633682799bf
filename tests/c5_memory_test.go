package tests

import (
	"math"
	"slices"
	"strings"
	"testing"

	"loop.example/namedflags/impl"
)

// showArgs are the arguments of the functions of chapter 5.
type showArgs struct {
	f impl.Flag
	a int
	s string
}

// showCalls are the functions of chapter 5; each overwrites the result and returns what it was.
var showCalls = map[string]func(x showArgs) []any{
	"ShowValue": func(x showArgs) []any { return []any{impl.ShowValue(x.f, x.a)} },
	"ReadValue": func(x showArgs) []any {
		n, ok := impl.ReadValue(x.f, x.s)
		return []any{n, ok}
	},
	"FittingNames": func(x showArgs) []any { return taken(impl.FittingNames(x.f, x.a), "taken") },
	"ShortNames":   func(x showArgs) []any { return taken(impl.ShortNames(x.f, x.a), "taken") },
	"ShowShort":    func(x showArgs) []any { return []any{impl.ShowShort(x.f, x.a)} },
	"ExactName": func(x showArgs) []any {
		name, ok := impl.ExactName(x.f, x.a)
		return []any{name, ok}
	},
	"ShowEnum": func(x showArgs) []any { return []any{impl.ShowEnum(impl.Enum{Defs: x.f.Defs}, x.a)} },
}

// checkShowCalls calls all functions twice and checks that what they return is not what they were given.
// The class has spare capacity, with marks in it.
func checkShowCalls(t *testing.T, x showArgs) {
	t.Helper()
	var all []impl.Def
	x.f.Defs, all = spare(x.f.Defs, markDef)
	before := slices.Clone(all)
	for name, call := range showCalls {
		quietly(t, name, func() {
			first, second := call(x), call(x)
			if !slices.Equal(first, second) {
				t.Fatalf("%s(%v) = %v, and then %v", name, x, first, second)
			}
		})
		if !slices.Equal(all, before) {
			t.Fatalf("%s(%v) writes into an argument, or shares memory with it", name, x)
		}
	}
}

func TestNoPanicAndNoWriteInChapter5(t *testing.T) {
	flags := append(invalidFlags(), impl.Flag{}, doors(impl.BdStrict), doors(impl.BdKeep), rests(impl.BdEject), fullFlag(impl.BdFit), impl.Flag{Bound: impl.BdKeep})
	texts := append([]string{"in", "in|out", "a|b", "0", "4095", "|", "in|", strings.Repeat("9", 400), strings.Repeat("|", 400), string(make([]byte, 5000))}, oddNames...)
	for _, f := range flags {
		for _, a := range edgeNumbers {
			checkShowCalls(t, showArgs{f: f, a: a, s: texts[len(f.Defs)%len(texts)]})
		}
		for _, s := range texts {
			checkShowCalls(t, showArgs{f: f, a: 6, s: s})
		}
	}
	for _, e := range append(invalidEnums(), colours(), fullEnum(), enumOf(-1000, 1000)) {
		for _, n := range []int{math.MinInt, -1001, -1000, -2, 0, 3, 1000, 1001, math.MaxInt} {
			checkShowCalls(t, showArgs{f: impl.Flag{Defs: e.Defs}, a: n})
		}
	}
}

func TestNoSharingInChapter5(t *testing.T) {
	values(func(f impl.Flag, a int) {
		checkShowCalls(t, showArgs{f: f, a: a, s: strings.Join(namesOfFlag(f), "|")})
	})
	g := generator(18)
	texts(func(f impl.Flag, s string) {
		checkShowCalls(t, showArgs{f: f, a: someValue(&g, f), s: s})
	})
}

// TestMarksAreLeftOutOfTexts checks that what lies behind the definitions is no part of them.
func TestMarksAreLeftOutOfTexts(t *testing.T) {
	list, _ := spare([]impl.Def{def("a", 2), def("b", 6)}, def("c", 4))
	f := impl.Flag{Defs: list}
	checkShow(t, f, showCase{4, "4", "4"})
	checkShow(t, f, showCase{6, "a|4", "b"})
	checkRead(t, f, "c", 0, false)
	if impl.FittingNames(f, 4) != nil || impl.ShortNames(f, 4) != nil {
		t.Errorf("%v: FittingNames(4) = %q, ShortNames = %q", f, impl.FittingNames(f, 4), impl.ShortNames(f, 4))
	}
	if name, ok := impl.ExactName(f, 4); ok || name != "" {
		t.Errorf("ExactName(%v, 4) = %q, %v", f, name, ok)
	}
	nothing, _ := spare([]impl.Def{def("a", 2)}, def("none", 0))
	checkShow(t, impl.Flag{Defs: nothing}, showCase{0, "0", "0"})
	if s := impl.ShowEnum(impl.Enum{Defs: list}, 4); s != "4" {
		t.Errorf("ShowEnum of a value behind the definitions = %q", s)
	}
}
