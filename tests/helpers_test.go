package tests

import (
	"math"
	"slices"

	"loop.example/namedflags/impl"
)

// letters are names of one letter, one more than a class can have.
const letters = "abcdefghijklm"

// oddNames are texts that are no names, whatever the enumeration.
var oddNames = []string{"", " ", "A", "a1", "a b", "toolong", "abcdefg", "é", "\xff", "a\x00", "a\n", "`", "{", "a-", "aé", "Zabcde", "abcdeZ"}

// enumOf returns the enumeration of values, with the names a, b and so on.
func enumOf(values ...int) impl.Enum {
	var e impl.Enum
	for i, n := range values {
		e.Defs = append(e.Defs, impl.Def{Name: letters[i : i+1], Value: n})
	}
	return e
}

// colours has other names of two values, one of them below 0.
func colours() impl.Enum {
	return impl.Enum{Defs: []impl.Def{{Name: "red", Value: 3}, {Name: "blue", Value: -2}, {Name: "rot", Value: 3}, {Name: "off", Value: 0}, {Name: "rouge", Value: 3}, {Name: "bleu", Value: -2}}}
}

// fullEnum has MaxItems names.
func fullEnum() impl.Enum {
	return enumOf(1, 2, 3, 4, 5, 6, 7, 8, 9, 10, 11, 12)
}

// sequences calls use with each sequence of at most length indices below kinds.
func sequences(kinds, length int, use func(list []int)) {
	list := []int{}
	var grow func()
	grow = func() {
		use(slices.Clone(list))
		if len(list) == length {
			return
		}
		for k := range kinds {
			list = append(list, k)
			grow()
			list = list[:len(list)-1]
		}
	}
	grow()
}

// generator is a fixed sequence of numbers that look like random ones.
type generator uint64

func (g *generator) below(n int) int {
	*g = *g*6364136223846793005 + 1442695040888963407
	return int(uint64(*g)>>33) % n
}

// validEnums returns enumerations of all sizes: each sequence of a few values, and longer ones.
func validEnums() []impl.Enum {
	list := []impl.Enum{colours(), fullEnum(), {Defs: []impl.Def{}}}
	values := []int{-1000, -2, 0, 1, 1000}
	sequences(len(values), 4, func(s []int) {
		for i, k := range s {
			s[i] = values[k]
		}
		list = append(list, enumOf(s...))
	})
	g := generator(1)
	for range 500 {
		spread := 1 + g.below(40)
		s := make([]int, g.below(impl.MaxItems+1))
		for i := range s {
			s[i] = g.below(spread) - spread/2
		}
		list = append(list, enumOf(s...))
	}
	return list
}

// invalidEnums returns enumerations that break each of the rules, at the front and at the back.
func invalidEnums() []impl.Enum {
	list := []impl.Enum{
		{Defs: []impl.Def{{Name: "a", Value: 1}, {Name: "a", Value: 1}}},
		{Defs: []impl.Def{{Name: "a", Value: 1}, {Name: "b", Value: 2}, {Name: "a", Value: 4}}},
		enumOf(1, 2, 3, 4, 5, 6, 7, 8, 9, 10, 11, 12, 13),
		enumOf(1, 3, 5, 7, 9, 11, 13, 15, 17, 19, 21, 23, 25),
		{Defs: make([]impl.Def, 100)},
		enumOf(1, 2, 1001),
		enumOf(1001, 2, 3),
		enumOf(1, -1001),
		enumOf(990, 1001),
		enumOf(-990, -1001),
		enumOf(math.MaxInt, math.MinInt),
		enumOf(1, math.MinInt),
		enumOf(1, math.MaxInt),
	}
	for _, s := range oddNames {
		list = append(list,
			impl.Enum{Defs: []impl.Def{{Name: s, Value: 1}, {Name: "a", Value: 4}}},
			impl.Enum{Defs: []impl.Def{{Name: "a", Value: 1}, {Name: "b", Value: 1}, {Name: s, Value: -2}}})
	}
	return list
}

// sameEnum reports whether two enumerations are the same value.
func sameEnum(a, b impl.Enum) bool {
	return slices.Equal(a.Defs, b.Defs)
}

// namesOf returns all names of an enumeration.
func namesOf(e impl.Enum) []string {
	var names []string
	for _, d := range e.Defs {
		names = append(names, d.Name)
	}
	return names
}

// itemsOf returns the items with the names and values of an enumeration.
func itemsOf(e impl.Enum) []impl.Item {
	var items []impl.Item
	for _, d := range e.Defs {
		items = append(items, impl.Item{Name: d.Name, Value: d.Value})
	}
	return items
}
