package tests

import (
	"math"
	"slices"
	"strings"
	"testing"

	"loop.example/namedflags/impl"
)

// armArgs are the arguments of the functions of chapter 6.
type armArgs struct {
	f     impl.Flag
	a, b  impl.Arm
	n     int
	list  []impl.Arm
	nums  []int
	names []string
	s     string
}

// markArm is a mark that is no part of any argument or result.
var markArm = impl.Arm{All: 77, None: 77}

// armCalls are the functions of chapter 6; each overwrites the result and returns what it was.
var armCalls = map[string]func(x armArgs) []any{
	"ValidArm":      func(x armArgs) []any { return []any{impl.ValidArm(x.f, x.a)} },
	"MatchArm":      func(x armArgs) []any { return []any{impl.MatchArm(x.f, x.a, x.n)} },
	"FirstArm":      func(x armArgs) []any { return []any{impl.FirstArm(x.f, x.list, x.n)} },
	"FirstMissed":   func(x armArgs) []any { return []any{impl.FirstMissed(x.f, x.list)} },
	"DeadArms":      func(x armArgs) []any { return taken(impl.DeadArms(x.f, x.list), math.MaxInt) },
	"ArmsMeet":      func(x armArgs) []any { return []any{impl.ArmsMeet(x.f, x.a, x.b)} },
	"ArmCovers":     func(x armArgs) []any { return []any{impl.ArmCovers(x.f, x.a, x.b)} },
	"CountArm":      func(x armArgs) []any { return []any{impl.CountArm(x.f, x.a)} },
	"GreatestArms":  func(x armArgs) []any { return taken(impl.GreatestArms(x.f, x.nums), arm(-1, -1)) },
	"MissedMembers": func(x armArgs) []any { return taken(impl.MissedMembers(impl.Enum{Defs: x.f.Defs}, x.names), "taken") },
	"ArmText":       func(x armArgs) []any { return []any{impl.ArmText(x.f, x.a)} },
	"ParseArm": func(x armArgs) []any {
		a, ok := impl.ParseArm(x.f, x.s)
		return []any{a, ok}
	},
}

// checkArmCalls calls all functions twice and checks that what they return is not what they were given.
// The arguments have spare capacity, with marks in it.
func checkArmCalls(t *testing.T, x armArgs) {
	t.Helper()
	var defs []impl.Def
	var list []impl.Arm
	var nums []int
	var names []string
	x.f.Defs, defs = spare(x.f.Defs, markDef)
	x.list, list = spare(x.list, markArm)
	x.nums, nums = spare(x.nums, 77)
	x.names, names = spare(x.names, "mark")
	defsWere, listWas, numsWere, namesWere := slices.Clone(defs), slices.Clone(list), slices.Clone(nums), slices.Clone(names)
	for name, call := range armCalls {
		quietly(t, name, func() {
			first, second := call(x), call(x)
			if !slices.Equal(first, second) {
				t.Fatalf("%s(%v) = %v, and then %v", name, x, first, second)
			}
		})
		if !slices.Equal(defs, defsWere) || !slices.Equal(list, listWas) || !slices.Equal(nums, numsWere) || !slices.Equal(names, namesWere) {
			t.Fatalf("%s(%v) writes into an argument, or shares memory with it", name, x)
		}
	}
}

func TestNoPanicAndNoWriteInChapter6(t *testing.T) {
	flags := append(invalidFlags(), impl.Flag{}, doors(impl.BdStrict), doors(impl.BdKeep), rests(impl.BdEject), sixBits(impl.BdStrict), sevenBits(impl.BdKeep), impl.Flag{Bound: impl.BdKeep})
	texts := append([]string{"*", "in", "!out in", "a b", "!a", "!", "! ", " !", strings.Repeat("!", 400), strings.Repeat(" ", 400), strings.Repeat("a ", 400), string(make([]byte, 5000))}, oddNames...)
	names := [][]string{nil, {}, {"a"}, {"in", "wide", "in"}, {"mark"}, {""}, oddNames, slices.Repeat([]string{"in"}, 100)}
	odd := append(oddArms(334), impl.Arm{}, arm(4, 2), arm(334, 0))
	lists := [][]impl.Arm{nil, {}, {{}}, {{}, {}}, odd, odd[:impl.MaxArms], make([]impl.Arm, impl.MaxArms), make([]impl.Arm, impl.MaxArms+1), make([]impl.Arm, 1000), {arm(4, 2), arm(2, 0), arm(4, 2)}}
	nums := [][]int{nil, {}, {0}, {0, 0}, {4, 6, 2}, {-1}, {math.MinInt, math.MaxInt}, {4095, 4096}, edgeNumbers, make([]int, impl.MaxNumbers), make([]int, impl.MaxNumbers+1), make([]int, 5000)}
	for i, f := range flags {
		for k, n := range append(edgeNumbers, 6, 72, 334, 335) {
			checkArmCalls(t, armArgs{f, odd[(i+k)%len(odd)], odd[k%len(odd)], n, lists[(i+k)%len(lists)], nums[(i+k)%len(nums)], names[(i+k)%len(names)], texts[(i+k)%len(texts)]})
		}
		for k, a := range odd {
			checkArmCalls(t, armArgs{f: f, a: a, b: a, n: a.All, list: []impl.Arm{a, a}, nums: []int{a.All, a.None}, s: texts[k%len(texts)]})
		}
	}
	for _, e := range append(invalidEnums(), colours(), fullEnum(), enumOf(-1000, 1000)) {
		for _, list := range append(names, namesOf(e)) {
			checkArmCalls(t, armArgs{f: impl.Flag{Defs: e.Defs}, names: list})
		}
	}
}

func TestNoSharingInChapter6(t *testing.T) {
	g := generator(30)
	armLists(func(f impl.Flag, list []impl.Arm) {
		checkArmCalls(t, armArgs{f: f, a: someArm(&g, f, 1), b: someArm(&g, f, 1), n: someValue(&g, f), list: list, names: namesOfFlag(f), s: someArmText(&g, f)})
	})
	wantedLists(func(f impl.Flag, list []int) {
		checkArmCalls(t, armArgs{f: f, nums: list, s: someArmText(&g, f)})
	})
	memberLists(func(e impl.Enum, list []string) {
		checkArmCalls(t, armArgs{f: impl.Flag{Defs: e.Defs}, names: list})
	})
}

// TestMarksAreLeftOutOfArms checks that what lies behind the arguments is no part of them.
func TestMarksAreLeftOutOfArms(t *testing.T) {
	list, _ := spare([]impl.Def{def("a", 2), def("b", 5)}, def("c", 8))
	f := impl.Flag{Defs: list}
	if impl.ValidArm(f, arm(8, 0)) || impl.CountArm(f, impl.Arm{}) != 8 || impl.ArmText(f, arm(0, 8)) != "" {
		t.Errorf("CountArm(%v) of the arm for all = %d", f, impl.CountArm(f, impl.Arm{}))
	}
	checkNoArm(t, f, "c")
	checkNoArm(t, f, "a c")
	arms, _ := spare([]impl.Arm{arm(0, 2)}, impl.Arm{})
	if impl.FirstMissed(f, arms) != 2 || impl.FirstArm(f, arms, 2) != -1 || impl.FirstMissed(f, arms[:0]) != 0 || impl.DeadArms(f, arms) != nil {
		t.Errorf("FirstMissed(%v, %v) = %d, FirstArm of 2 = %d", f, arms, impl.FirstMissed(f, arms), impl.FirstArm(f, arms, 2))
	}
	numbers, _ := spare([]int{7}, 5)
	checkGreatest(t, f, numbers, arm(7, 0))
	beyond, _ := spare([]int{7}, 8)
	checkGreatest(t, f, beyond, arm(7, 0))
	names, _ := spare([]string{"b"}, "a")
	if missed := impl.MissedMembers(impl.Enum{Defs: list}, names); !slices.Equal(missed, []string{"a"}) {
		t.Errorf("MissedMembers(%v, %q) = %q", list, names, missed)
	}
}
