package tests

import (
	"slices"
	"testing"

	"loop.example/namedflags/impl"
)

func TestP24ClassesOfFlagsCanHaveAllBounds(t *testing.T) {
	for _, f := range validFlags() {
		for g := f; ; g = withoutLast(g) {
			for _, bound := range allBounds {
				other := impl.Flag{Defs: g.Defs, Bound: bound}
				if !impl.ValidFlag(other) {
					t.Fatalf("ValidFlag(%v) = false", other)
				}
				if h, ok := impl.WithBound(g, bound); !ok || !sameFlag(h, other) {
					t.Fatalf("WithBound(%v, %d) = %v, %v", g, bound, h, ok)
				}
			}
			if len(g.Defs) == 0 {
				break
			}
		}
	}
}

func TestP31ValuesAreMadeOnce(t *testing.T) {
	made := map[int]int{}
	for _, f := range validFlags() {
		for _, n := range edgeNumbers {
			made[checkMade(t, f, plainMask(f.Defs), n)]++
		}
	}
	for how := range 3 {
		if made[how] < 1000 {
			t.Errorf("only %d numbers make what is told by %d", made[how], how)
		}
	}
}

// checkMade checks what a number makes with a valid class whose mask is told, and returns how.
func checkMade(t *testing.T, f impl.Flag, mask, n int) int {
	t.Helper()
	want, wantHow := plainMake(mask, f.Bound, n)
	value, how := impl.MakeValue(f, n)
	if value != want || how != wantHow {
		t.Fatalf("MakeValue(%v, %d) = %d, %d", f, n, value, how)
	}
	if how != impl.HwOk {
		if impl.IsValue(f, n) || impl.IsValue(f, value) != (how == impl.HwWrong) {
			t.Fatalf("%v: MakeValue(%d) = %d, %d, IsValue = %v", f, n, value, how, impl.IsValue(f, value))
		}
		return how
	}
	if again, howAgain := impl.MakeValue(f, value); !impl.IsValue(f, value) || again != value || howAgain != impl.HwOk {
		t.Fatalf("%v: MakeValue(%d) = %d, which makes %d, %d", f, n, value, again, howAgain)
	}
	if impl.IsValue(f, n) != (value == n) {
		t.Fatalf("%v: MakeValue(%d) = %d, IsValue = %v", f, n, value, impl.IsValue(f, n))
	}
	return how
}

func TestAllNumbersMakeValuesOnce(t *testing.T) {
	for _, list := range [][]impl.Def{nil, doors(0).Defs, fullFlag(0).Defs, flagOf(0, 0, 3, 2).Defs, flagOf(0, 2049).Defs} {
		mask := plainMask(list)
		for _, bound := range allBounds {
			for n := -impl.MaxFlag - 3; n <= impl.MaxFlag+2; n++ {
				checkMade(t, impl.Flag{Defs: list, Bound: bound}, mask, n)
			}
		}
	}
}

func TestBoundsDifferInBitsThatAreNotNamed(t *testing.T) {
	for _, list := range flagLists() {
		strict, _ := impl.WithBound(impl.Flag{Defs: list}, impl.BdStrict)
		mask := impl.MaskOf(strict)
		for _, n := range edgeNumbers {
			if n < 0 || n > impl.MaxFlag {
				continue
			}
			var made []int
			for _, bound := range allBounds {
				f, _ := impl.WithBound(strict, bound)
				value, how := impl.MakeValue(f, n)
				made = append(made, value, how)
			}
			want := []int{0, impl.HwWrong, n & mask, impl.HwOk, n, impl.HwNumber, n, impl.HwOk}
			if n&mask == n {
				want = []int{n, impl.HwOk, n, impl.HwOk, n, impl.HwOk, n, impl.HwOk}
			}
			if !slices.Equal(made, want) {
				t.Fatalf("%v makes %v of %d", list, made, n)
			}
		}
	}
}

func TestP35BoundsComeBack(t *testing.T) {
	for _, f := range validFlags() {
		for _, bound := range allBounds {
			g, ok := impl.WithBound(f, bound)
			if !ok || g.Bound != bound || !slices.Equal(g.Defs, f.Defs) {
				t.Fatalf("WithBound(%v, %d) = %v, %v", f, bound, g, ok)
			}
			if back, ok := impl.WithBound(g, f.Bound); !ok || !sameFlag(back, f) {
				t.Fatalf("WithBound(%v, %d) = %v, %v", g, f.Bound, back, ok)
			}
		}
	}
}

// plainBuild returns the values of items, and whether a class can have them.
func plainBuild(items []impl.Item) ([]int, bool) {
	var values []int
	for _, item := range items {
		value := item.Value
		if item.Auto {
			if value != 0 {
				return nil, false
			}
			value = 1
			for _, n := range values {
				for value <= n {
					value *= 2
				}
			}
		}
		if value < 0 || value > impl.MaxFlag {
			return nil, false
		}
		values = append(values, value)
	}
	return values, true
}

func TestAutomaticBitsAreNew(t *testing.T) {
	built, others := 0, 0
	check := func(items []impl.Item, bound int) {
		want, fits := plainBuild(items)
		f, ok := impl.BuildFlag(items, bound)
		if ok != fits || fits && !sameFlag(f, flagOf(bound, want...)) {
			t.Fatalf("BuildFlag(%v, %d) = %v, %v", items, bound, f, ok)
		}
		if !fits {
			checkNoFlag(t, "BuildFlag of what does not fit", f, ok)
			others++
			return
		}
		built++
		if again, ok := impl.BuildFlag(itemsOf(impl.Enum{Defs: f.Defs}), bound); !ok || !sameFlag(again, f) {
			t.Fatalf("BuildFlag of %v = %v, %v", f, again, ok)
		}
	}
	itemLists([]int{-1, 0, 1, 3, 4, 2047, 2048, 4095, 4096}, func(items []impl.Item) { check(items, len(items)) })
	g := generator(9)
	for range 2000 {
		items := autos(g.below(impl.MaxItems + 1))
		for i := range items {
			if g.below(3) == 0 {
				items[i] = own(items[i].Name, g.below(1<<(1+g.below(12))))
			}
		}
		check(items, g.below(4))
	}
	if built < 1000 || others < 1000 {
		t.Errorf("only %d classes are built, %d are not", built, others)
	}
}
