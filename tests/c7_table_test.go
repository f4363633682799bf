package tests

import (
	"math"
	"slices"
	"testing"

	"loop.example/namedflags/impl"
)

// checkTable checks the table of definitions.
func checkTable(t *testing.T, e impl.Enum, list []impl.Def, want ...int) {
	t.Helper()
	if numbers, ok := impl.TableOf(e, list); !ok || !slices.Equal(numbers, want) {
		t.Errorf("TableOf(%v, %v) = %v, %v, want %v", e, list, numbers, ok, want)
	}
}

// checkNoTable checks that definitions make no table.
func checkNoTable(t *testing.T, e impl.Enum, list []impl.Def) {
	t.Helper()
	if numbers, ok := impl.TableOf(e, list); ok || numbers != nil {
		t.Errorf("TableOf(%v, %v) = %v, %v", e, list, numbers, ok)
	}
}

func TestTableOf(t *testing.T) {
	c := colours()
	checkTable(t, c, []impl.Def{def("red", 10), def("blue", 20), def("off", 30)}, 10, 20, 30)
	checkTable(t, c, []impl.Def{def("off", 30), def("rot", 10), def("bleu", 20)}, 10, 20, 30)
	checkTable(t, c, []impl.Def{def("blue", -5), def("off", 0), def("rouge", -5)}, -5, -5, 0)
	checkTable(t, c, []impl.Def{def("off", 1000), def("blue", -1000), def("red", 1000)}, 1000, -1000, 1000)
	checkTable(t, enumOf(5, 5, 5), []impl.Def{def("c", 7)}, 7)
	checkTable(t, enumOf(-3, 2, -3), []impl.Def{def("b", 0), def("c", 0)}, 0, 0)
	checkTable(t, impl.Enum{}, nil)
	checkTable(t, impl.Enum{Defs: []impl.Def{}}, []impl.Def{})
}

func TestTableOfMembersLeftOut(t *testing.T) {
	for _, list := range [][]impl.Def{
		nil, {}, {def("red", 1)}, {def("off", 1)}, {def("off", 1), def("rot", 2)}, {def("red", 1), def("bleu", 2)}, {def("blue", 1), def("off", 2)},
	} {
		checkNoTable(t, colours(), list)
	}
	checkNoTable(t, enumOf(0), nil)
	full := fullEnum()
	for i := range full.Defs {
		checkNoTable(t, full, slices.Delete(slices.Clone(full.Defs), i, i+1))
	}
}

func TestTableOfMembersTwice(t *testing.T) {
	for _, list := range [][]impl.Def{
		// By the name, by another name of it, with the same value and with another one, with all members and with one too few.
		{def("red", 1), def("blue", 2), def("off", 3), def("red", 1)},
		{def("red", 1), def("red", 1), def("blue", 2), def("off", 3)},
		{def("red", 1), def("blue", 2), def("off", 3), def("off", 4)},
		{def("red", 1), def("blue", 2), def("off", 3), def("rot", 1)},
		{def("rouge", 1), def("rot", 2), def("blue", 2), def("off", 3)},
		{def("red", 1), def("blue", 2), def("bleu", 2), def("off", 3)},
		{def("red", 1), def("blue", 2), def("red", 1)},
		{def("red", 1), def("rot", 1), def("blue", 2)},
		{def("off", 3), def("blue", 2), def("bleu", 2)},
		{def("red", 1), def("blue", 2), def("rot", 1), def("off", 3), def("rouge", 1), def("bleu", 2)},
	} {
		checkNoTable(t, colours(), list)
	}
	checkNoTable(t, enumOf(5, 5), []impl.Def{def("a", 1), def("b", 1)})
	checkNoTable(t, enumOf(5), []impl.Def{def("a", 1), def("a", 1)})
}

func TestTableOfNamesThatAreNotThere(t *testing.T) {
	for _, s := range strangeNames {
		for i := range 4 {
			all := []impl.Def{def("red", 1), def("bleu", 2), def("off", 3)}
			checkNoTable(t, colours(), slices.Insert(all, i, def(s, 4)))
			if i < 3 {
				all = []impl.Def{def("red", 1), def("bleu", 2), def("off", 3)}
				all[i].Name = s
				checkNoTable(t, colours(), all)
			}
		}
		checkNoTable(t, impl.Enum{}, []impl.Def{def(s, 0)})
	}
}

func TestTableOfValuesBeyond(t *testing.T) {
	for _, n := range []int{1001, -1001, 4096, math.MaxInt, math.MinInt} {
		for i := range 3 {
			all := []impl.Def{def("red", 1), def("bleu", 2), def("off", 3)}
			all[i].Value = n
			checkNoTable(t, colours(), all)
		}
	}
}

func TestTableOfManyDefinitions(t *testing.T) {
	full := fullEnum()
	checkTable(t, full, full.Defs, 1, 2, 3, 4, 5, 6, 7, 8, 9, 10, 11, 12)
	backward := slices.Clone(full.Defs)
	slices.Reverse(backward)
	checkTable(t, full, backward, 1, 2, 3, 4, 5, 6, 7, 8, 9, 10, 11, 12)
	for _, d := range full.Defs {
		checkNoTable(t, full, append(slices.Clone(full.Defs), d))
		checkNoTable(t, full, append([]impl.Def{d}, full.Defs...))
	}
	checkNoTable(t, full, append(slices.Clone(full.Defs), def("m", 13)))
	checkNoTable(t, full, slices.Repeat(full.Defs, 100))
	checkNoTable(t, colours(), slices.Repeat([]impl.Def{def("red", 1)}, impl.MaxItems+1))
	checkNoTable(t, impl.Enum{}, make([]impl.Def, 1000))
}

// checkLookUp checks the numbers of names in a table.
func checkLookUp(t *testing.T, e impl.Enum, numbers []int, want map[string]int) {
	t.Helper()
	for s, n := range want {
		if found, ok := impl.LookUp(e, numbers, s); !ok || found != n {
			t.Errorf("LookUp(%v, %v, %q) = %d, %v, want %d", e, numbers, s, found, ok, n)
		}
	}
}

// checkNoNumber checks that a name has no number in a table.
func checkNoNumber(t *testing.T, e impl.Enum, numbers []int, s string) {
	t.Helper()
	if n, ok := impl.LookUp(e, numbers, s); ok || n != 0 {
		t.Errorf("LookUp(%v, %v, %q) = %d, %v", e, numbers, s, n, ok)
	}
}

func TestLookUp(t *testing.T) {
	c := colours()
	checkLookUp(t, c, []int{10, 20, 30}, map[string]int{"red": 10, "rot": 10, "rouge": 10, "blue": 20, "bleu": 20, "off": 30})
	checkLookUp(t, c, []int{-1000, 1000, 0}, map[string]int{"red": -1000, "rouge": -1000, "bleu": 1000, "off": 0})
	checkLookUp(t, c, []int{4, 4, 4}, map[string]int{"rot": 4, "blue": 4, "off": 4})
	checkLookUp(t, fullEnum(), []int{12, 11, 10, 9, 8, 7, 6, 5, 4, 3, 2, 1}, map[string]int{"a": 12, "b": 11, "k": 2, "l": 1})
	checkLookUp(t, enumOf(5, 5, 5), []int{-7}, map[string]int{"a": -7, "b": -7, "c": -7})
	for _, s := range strangeNames {
		checkNoNumber(t, c, []int{10, 20, 30}, s)
		checkNoNumber(t, impl.Enum{}, nil, s)
	}
}

func TestRevalue(t *testing.T) {
	c := colours()
	for _, k := range []struct {
		e       impl.Enum
		numbers []int
		want    impl.Enum
	}{
		{c, []int{10, 20, 30}, defs(def("red", 10), def("blue", 20), def("rot", 10), def("off", 30), def("rouge", 10), def("bleu", 20))},
		{c, []int{-1000, 1000, 0}, defs(def("red", -1000), def("blue", 1000), def("rot", -1000), def("off", 0), def("rouge", -1000), def("bleu", 1000))},
		{c, []int{3, -2, 0}, c},
		// Members with one number become names of one value.
		{c, []int{4, 4, 4}, defs(def("red", 4), def("blue", 4), def("rot", 4), def("off", 4), def("rouge", 4), def("bleu", 4))},
		{enumOf(5, 5, 6), []int{6, 5}, enumOf(6, 6, 5)},
		{fullEnum(), []int{12, 11, 10, 9, 8, 7, 6, 5, 4, 3, 2, 1}, enumOf(12, 11, 10, 9, 8, 7, 6, 5, 4, 3, 2, 1)},
		{impl.Enum{}, nil, impl.Enum{}},
		{impl.Enum{}, []int{}, impl.Enum{}},
		{impl.Enum{Defs: []impl.Def{}}, nil, impl.Enum{}},
	} {
		if e, ok := impl.Revalue(k.e, k.numbers); !ok || !sameEnum(e, k.want) {
			t.Errorf("Revalue(%v, %v) = %v, %v", k.e, k.numbers, e, ok)
		}
	}
}

// checkNoRows checks that numbers are no table of an enumeration.
func checkNoRows(t *testing.T, e impl.Enum, numbers []int) {
	t.Helper()
	if after, ok := impl.Revalue(e, numbers); ok || after.Defs != nil {
		t.Errorf("Revalue(%v, %v) = %v, %v", e, numbers, after, ok)
	}
	for _, s := range append(namesOf(e), "a", "red", "zz", "") {
		checkNoNumber(t, e, numbers, s)
	}
}

func TestNumbersThatAreNoTable(t *testing.T) {
	c := colours()
	for _, numbers := range [][]int{
		nil, {}, {10}, {10, 20}, {10, 20, 30, 40}, {10, 20, 30, 40, 50, 60}, make([]int, impl.MaxItems), make([]int, 1000),
		{1001, 20, 30}, {10, 1001, 30}, {10, 20, 1001}, {-1001, 20, 30}, {10, -1001, 30}, {10, 20, -1001},
		{math.MinInt, 20, 30}, {10, 20, math.MaxInt}, {10, 20, 30, 1001},
	} {
		checkNoRows(t, c, numbers)
	}
	full := fullEnum()
	checkNoRows(t, full, make([]int, impl.MaxItems-1))
	checkNoRows(t, full, make([]int, impl.MaxItems+1))
	checkNoRows(t, impl.Enum{}, []int{0})
	checkNoRows(t, impl.Enum{Defs: []impl.Def{}}, []int{0})
	checkNoRows(t, enumOf(5, 5, 5), []int{5, 5, 5})
}
