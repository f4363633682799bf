package tests

import (
	"slices"

	"loop.example/namedflags/impl"
)

// tones shares names with colours, but under other members, and values, but under other names.
func tones() impl.Enum {
	return defs(def("bleu", 7), def("rot", 1), def("ink", 7), def("rouge", 3), def("red", 1), def("off", 7), def("one", 0))
}

// strangeNames are names that neither colours nor tones has, and texts that are none.
var strangeNames = append([]string{"x", "re", "redd", "RED", " red", "red ", "red|rot", "3", "-2", "mark"}, oddNames...)

// plainFirstOf returns the first name of a value.
func plainFirstOf(e impl.Enum, n int) (string, bool) {
	for _, d := range e.Defs {
		if d.Value == n {
			return d.Name, true
		}
	}
	return "", false
}

// plainMember returns the member of a name of a valid enumeration.
func plainMember(e impl.Enum, s string) (string, bool) {
	value, ok := plainValue(e, s)
	if !ok {
		return "", false
	}
	return plainFirstOf(e, value)
}

// plainMembers returns the names of a valid enumeration that are members.
func plainMembers(e impl.Enum) []string {
	return slices.DeleteFunc(namesOf(e), func(s string) bool {
		member, _ := plainMember(e, s)
		return member != s
	})
}

// plainRank returns the rank of a name of a valid enumeration; -1 if it does not have it.
func plainRank(e impl.Enum, s string) int {
	member, _ := plainMember(e, s)
	return slices.Index(plainMembers(e), member)
}

// plainByRanks returns the definitions of a valid enumeration with a value for each rank.
func plainByRanks(e impl.Enum, values []int) []impl.Def {
	var list []impl.Def
	for _, s := range namesOf(e) {
		list = append(list, def(s, values[plainRank(e, s)]))
	}
	return list
}

// ranks returns the numbers from 0 on, as many as there are members.
func ranks(e impl.Enum) []int {
	var list []int
	for rank := range plainMembers(e) {
		list = append(list, rank)
	}
	return list
}

// powers returns the powers of 2 from 1 on, as many as there are members.
func powers(e impl.Enum) []int {
	return bitsOf(impl.MaxFlag)[:len(plainMembers(e))]
}

// plainSet returns what the document says that SetOf returns for a valid enumeration.
func plainSet(e impl.Enum, list []string) (int, bool) {
	sum := 0
	for _, s := range list {
		rank := plainRank(e, s)
		if rank < 0 {
			return 0, false
		}
		sum = plainOr(sum, powers(e)[rank])
	}
	return sum, true
}

// plainIn returns what the document says that MembersIn returns for a valid enumeration.
func plainIn(e impl.Enum, n int) []string {
	members := plainMembers(e)
	if n < 0 || n >= 1<<len(members) {
		return nil
	}
	return slices.DeleteFunc(slices.Clone(members), func(s string) bool { return !hasBit(n, powers(e)[plainRank(e, s)]) })
}

// plainConvert returns what the document says that ConvertValue returns for a value of a valid class, and another valid class.
func plainConvert(f, g impl.Flag, a int) (int, bool) {
	names, rest := plainNames(f, a)
	if rest > 0 {
		return 0, false
	}
	return plainFrom(g, names)
}

// plainBeyond reports whether a number is no value of an enumeration.
func plainBeyond(n int) bool { return n > 1000 || n < -1000 }

// plainTable returns what the document says that TableOf returns for a valid enumeration: each member's definitions are counted.
func plainTable(e impl.Enum, list []impl.Def) ([]int, bool) {
	for _, d := range list {
		if plainRank(e, d.Name) < 0 || plainBeyond(d.Value) {
			return nil, false
		}
	}
	var numbers []int
	for rank := range plainMembers(e) {
		count := 0
		for _, d := range list {
			if plainRank(e, d.Name) == rank {
				numbers = append(numbers, d.Value)
				count++
			}
		}
		if count != 1 {
			return nil, false
		}
	}
	return numbers, true
}

// plainIsTable reports whether numbers are a table of a valid enumeration.
func plainIsTable(e impl.Enum, numbers []int) bool {
	return len(numbers) == len(plainMembers(e)) && !slices.ContainsFunc(numbers, plainBeyond)
}

// sameName reports whether a name that is returned with a bool is the wanted one.
func sameName(name string, ok bool, want string, fits bool) bool {
	return name == want && ok == fits
}

// flagsToConvert are classes whose bits have one name, several, or none, some with the same names for other bits.
func flagsToConvert() []impl.Flag {
	list := append(smallFlags(), savers(impl.BdFit), fullFlag(impl.BdStrict), fullFlag(impl.BdKeep), flagOf(impl.BdEject, 4095))
	for _, bound := range allBounds {
		list = append(list, doors(bound), rests(bound), flagOf(bound, 4, 1, 2), flagOf(bound, 2048, 2048, 6, 0), flagOf(bound, 0, 0, 0, 0), flagOf(bound, 3, 12, 48, 192, 768, 3072))
	}
	return list
}

// conversions calls use with values of all kinds of classes, and classes that they are converted to, which most often have their names.
func conversions(use func(f, g impl.Flag, a int)) {
	list := flagsToConvert()
	r := generator(31)
	for _, f := range list {
		for _, g := range list {
			for _, a := range []int{0, plainMask(f.Defs), someValue(&r, f), plainMask(plainSingles(f.Defs)), plainAnd(someValue(&r, f), plainMask(plainSingles(f.Defs)))} {
				use(f, g, a)
			}
		}
	}
	values(func(f impl.Flag, a int) {
		g := impl.Flag{Defs: slices.Clone(f.Defs), Bound: r.below(4)}
		for i := range g.Defs {
			// Names get other values, several bits and none among them, and a few get lost.
			g.Defs[i].Value = plainAnd(r.below(impl.MaxFlag+1), r.below(impl.MaxFlag+1))
		}
		if len(g.Defs) > 0 && r.below(3) == 0 {
			i := r.below(len(g.Defs))
			g.Defs = slices.Delete(g.Defs, i, i+1)
		}
		use(f, g, a)
		use(f, g, plainAnd(a, plainMask(plainSingles(f.Defs))))
	})
}

// enumSets calls use with enumerations and values of FlagOf them: all where there are few, and others.
func enumSets(use func(e impl.Enum, n int)) {
	g := generator(32)
	for _, e := range append(validEnums(), mixedEnums()...) {
		all := 1 << len(plainMembers(e))
		if all <= 16 {
			for n := range all {
				use(e, n)
			}
			continue
		}
		for _, n := range []int{0, all - 1, all / 2, g.below(all), g.below(all), g.below(all)} {
			use(e, n)
		}
	}
}

// someNumber returns a number of a table as the generator has it.
func someNumber(g *generator) int {
	switch g.below(10) {
	case 0:
		return impl.MaxValue
	case 1:
		return -impl.MaxValue
	case 2, 3, 4:
		return g.below(5) - 2
	default:
		return g.below(2*impl.MaxValue+1) - impl.MaxValue
	}
}

// someDefs returns a definition for each member of a valid enumeration, with one of its names, in any order, as the generator has it.
func someDefs(g *generator, e impl.Enum) []impl.Def {
	var list []impl.Def
	for _, member := range plainMembers(e) {
		names := slices.DeleteFunc(namesOf(e), func(s string) bool { return plainRank(e, s) != plainRank(e, member) })
		list = slices.Insert(list, g.below(len(list)+1), def(names[g.below(len(names))], someNumber(g)))
	}
	return list
}

// tables calls use with enumerations and definitions that make a table.
func tables(use func(e impl.Enum, list []impl.Def)) {
	g := generator(33)
	for _, e := range append(validEnums(), mixedEnums()...) {
		use(e, someDefs(&g, e))
	}
	for range 1000 {
		e := someEnum(&g)
		use(e, someDefs(&g, e))
	}
}

// brokenDefs calls use with definitions of which each but one is as in a table: it is left out, there twice, beyond, or of another name.
func brokenDefs(use func(e impl.Enum, list []impl.Def)) {
	g := generator(34)
	tables(func(e impl.Enum, list []impl.Def) {
		use(e, append(slices.Clone(list), def("zz", 1)))
		if len(list) == 0 {
			return
		}
		i := g.below(len(list))
		use(e, slices.Delete(slices.Clone(list), i, i+1))
		another := slices.Clone(list)
		names := namesOf(e)
		use(e, slices.Insert(another, g.below(len(list)+1), def(names[g.below(len(names))], someNumber(&g))))
		for _, d := range []impl.Def{def("zz", 1), def("", 1), def(list[i].Name, 1001), def(list[i].Name, -1001), list[g.below(len(list))]} {
			broken := slices.Clone(list)
			broken[i] = d
			use(e, broken)
		}
	})
}

// rows calls use with enumerations and numbers: tables, others that are too short or too long, and numbers that are beyond.
func rows(use func(e impl.Enum, numbers []int)) {
	g := generator(35)
	tables(func(e impl.Enum, list []impl.Def) {
		var numbers []int
		for _, d := range list {
			numbers = append(numbers, d.Value)
		}
		use(e, numbers)
		use(e, append(slices.Clone(numbers), someNumber(&g)))
		if len(numbers) == 0 {
			return
		}
		use(e, numbers[:len(numbers)-1])
		i := g.below(len(numbers))
		for _, n := range []int{impl.MaxValue + 1, -impl.MaxValue - 1} {
			broken := slices.Clone(numbers)
			broken[i] = n
			use(e, broken)
		}
	})
}
