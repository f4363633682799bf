package tests

import (
	"fmt"
	"slices"
	"strings"

	"loop.example/namedflags/impl"
)

// rests has two names of nothing, two of one composed value, and a bit (8) that only a composed name has.
func rests(bound int) impl.Flag {
	return impl.Flag{Defs: []impl.Def{def("off", 0), def("r", 4), def("w", 2), def("rw", 6), def("most", 14), def("none", 0), def("wr", 6), def("x", 1)}, Bound: bound}
}

// savers has a name for each of its nine bits, and three composed ones that save others.
func savers(bound int) impl.Flag {
	return flagOf(bound, 1, 2, 4, 8, 16, 32, 64, 128, 256, 7, 30, 496)
}

// flagsOfRests are classes with names of nothing and without one, whose bits have names, none of their own, or none at all.
func flagsOfRests() []impl.Flag {
	var list []impl.Flag
	for _, bound := range allBounds {
		list = append(list, doors(bound), rests(bound), savers(bound), fullFlag(bound), flagOf(bound, 2049, 6), flagOf(bound, 4095), impl.Flag{Bound: bound})
	}
	return list
}

// plainWords returns the words of a text, one more than it has bars.
func plainWords(s string) []string {
	words := []string{""}
	for i := range len(s) {
		if s[i] == '|' {
			words = append(words, "")
			continue
		}
		words[len(words)-1] += s[i : i+1]
	}
	return words
}

// plainNumber returns the number in 0..MaxFlag that a word is, digit by digit, and whether it is one without zeros ahead.
func plainNumber(s string) (int, bool) {
	if s == "" || len(s) > 4 || len(s) > 1 && s[0] == '0' {
		return 0, false
	}
	n := 0
	for i := range len(s) {
		if s[i] < '0' || s[i] > '9' {
			return 0, false
		}
		n = 10*n + int(s[i]-'0')
	}
	return n, n <= impl.MaxFlag
}

// plainRead returns what the document says that ReadValue returns for a valid class.
func plainRead(f impl.Flag, s string) (int, bool) {
	sum := 0
	for _, word := range plainWords(s) {
		n, ok := plainValue(impl.Enum{Defs: f.Defs}, word)
		if !ok {
			n, ok = plainNumber(word)
		}
		if !ok {
			return 0, false
		}
		sum = plainOr(sum, n)
	}
	if !plainIs(f, sum) {
		return 0, false
	}
	return sum, true
}

// plainNothing returns the text of a value of a valid class without names or rest.
func plainNothing(f impl.Flag) string {
	for _, d := range f.Defs {
		if d.Value == 0 {
			return d.Name
		}
	}
	return "0"
}

// plainText returns the text of a value of a valid class with some names that are in it.
func plainText(f impl.Flag, a int, names []string) string {
	words := slices.Clone(names)
	for _, s := range names {
		value, _ := plainValue(impl.Enum{Defs: f.Defs}, s)
		a = plainLess(a, value)
	}
	if a > 0 {
		words = append(words, fmt.Sprint(a))
	}
	if len(words) == 0 {
		return plainNothing(f)
	}
	return strings.Join(words, "|")
}

// plainShow returns what the document says that ShowValue returns for a value of a valid class.
func plainShow(f impl.Flag, a int) string {
	names, _ := plainNames(f, a)
	return plainText(f, a, names)
}

// plainFitting returns the definitions of a valid class that have bits, and only those of a value.
func plainFitting(f impl.Flag, a int) []impl.Def {
	var list []impl.Def
	for _, d := range f.Defs {
		if d.Value > 0 && plainLess(d.Value, a) == 0 {
			list = append(list, d)
		}
	}
	return list
}

// plainShort returns the fewest names that are as good as all fitting ones.
// All choices are gone through: the higher the number of a choice, the earlier its first name, and then its second one.
func plainShort(f impl.Flag, a int) []string {
	list := plainFitting(f, a)
	all := 0
	for _, d := range list {
		all |= d.Value
	}
	best := namesOf(impl.Enum{Defs: list})
	for choice := 1<<len(list) - 1; choice >= 0; choice-- {
		var names []string
		sum := 0
		for i, d := range list {
			if choice>>(len(list)-1-i)%2 == 1 {
				names = append(names, d.Name)
				sum |= d.Value
			}
		}
		if sum == all && len(names) < len(best) {
			best = names
		}
	}
	return best
}

// nameCount returns how many words of a text of a value are no numbers.
func nameCount(s string) int {
	count := 0
	for _, word := range plainWords(s) {
		if _, number := plainNumber(word); !number {
			count++
		}
	}
	return count
}

// someText returns a text of words that most often are names of a class or numbers, as the generator has it.
func someText(g *generator, f impl.Flag) string {
	var words []string
	for {
		word := fmt.Sprint(1 << g.below(12))
		switch k := g.below(24); {
		case k == 0:
			word = []string{"", "0", "07", " 1", "+1", "-0", "4096", "zz", "A", "4095", "0000", "1 "}[g.below(12)]
		case k < 3:
			word = fmt.Sprint(someValue(g, f))
		case k < 20 && len(f.Defs) > 0:
			word = f.Defs[g.below(len(f.Defs))].Name
		}
		words = append(words, word)
		if g.below(3) == 0 {
			return strings.Join(words, "|")
		}
	}
}

// texts calls use with texts that are read by classes of all kinds, and others that are not.
func texts(use func(f impl.Flag, s string)) {
	g := generator(17)
	for _, f := range slices.Concat(validFlags(), smallFlags(), flagsOfRests()) {
		for _, d := range f.Defs {
			use(f, d.Name)
		}
		for range 4 {
			use(f, someText(&g, f))
		}
	}
}

// enumNumbers calls use with enumerations and numbers: values, their neighbours, and those at the limits and beyond.
func enumNumbers(use func(e impl.Enum, n int)) {
	for _, e := range validEnums() {
		for _, d := range e.Defs {
			for n := d.Value - 1; n <= d.Value+1; n++ {
				use(e, n)
			}
		}
		for _, n := range []int{-1001, -1000, -1, 0, 1, 1000, 1001} {
			use(e, n)
		}
	}
	for _, e := range []impl.Enum{{}, colours(), fullEnum(), enumOf(-1000, 1000, 0)} {
		for n := -1100; n <= 1100; n++ {
			use(e, n)
		}
	}
}
