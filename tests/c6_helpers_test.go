package tests

import (
	"slices"
	"strings"

	"loop.example/namedflags/impl"
)

// arm returns an arm.
func arm(all, none int) impl.Arm { return impl.Arm{All: all, None: none} }

// three has three names of one bit each.
func three(bound int) impl.Flag { return flagOf(bound, 1, 2, 4) }

// sixBits has exactly MaxBits bits, two of which only a composed name has.
func sixBits(bound int) impl.Flag { return flagOf(bound, 2048, 4, 320, 1, 16, 4) }

// sevenBits has one bit more than MaxBits.
func sevenBits(bound int) impl.Flag { return flagOf(bound, 2048, 4, 320, 1, 16, 4, 35) }

// plainNumbers returns all numbers with only bits of a mask, ascending.
func plainNumbers(mask int) []int {
	numbers := []int{0}
	for _, bit := range bitsOf(mask) {
		for _, n := range slices.Clone(numbers) {
			numbers = append(numbers, n+bit)
		}
	}
	return numbers
}

// plainMatches reports whether an arm matches a number, bit by bit.
func plainMatches(a impl.Arm, n int) bool {
	for bit := 1; bit <= impl.MaxFlag; bit *= 2 {
		if hasBit(a.All, bit) && !hasBit(n, bit) || hasBit(a.None, bit) && hasBit(n, bit) {
			return false
		}
	}
	return true
}

// plainMatched returns which numbers an arm matches.
func plainMatched(a impl.Arm, numbers []int) []int {
	return slices.DeleteFunc(slices.Clone(numbers), func(n int) bool { return !plainMatches(a, n) })
}

// plainArms returns all valid arms of a class whose mask is told, by All and then by None.
func plainArms(mask int) []impl.Arm {
	var arms []impl.Arm
	for _, all := range plainNumbers(mask) {
		for _, none := range plainNumbers(plainLess(mask, all)) {
			arms = append(arms, arm(all, none))
		}
	}
	return arms
}

// plainFirst returns the index of the first arm that matches a number.
func plainFirst(list []impl.Arm, n int) int {
	return slices.IndexFunc(list, func(a impl.Arm) bool { return plainMatches(a, n) })
}

// plainOutcome returns the least number that no arm matches, and the arms that come first for no number.
func plainOutcome(mask int, list []impl.Arm) (int, []int) {
	missed, first := -1, map[int]bool{}
	for _, n := range plainNumbers(mask) {
		i := plainFirst(list, n)
		first[i] = true
		if i < 0 && missed < 0 {
			missed = n
		}
	}
	var dead []int
	for i := range list {
		if !first[i] {
			dead = append(dead, i)
		}
	}
	return missed, dead
}

// within reports whether all numbers of a list are in another one.
func within(list, other []int) bool {
	for _, n := range list {
		if !slices.Contains(other, n) {
			return false
		}
	}
	return true
}

// plainGreatest returns the greatest arms that match only numbers of a list, by what each of them matches.
func plainGreatest(mask int, list []int) []impl.Arm {
	numbers := plainNumbers(mask)
	var arms []impl.Arm
	var matched [][]int
	for _, a := range plainArms(mask) {
		if found := plainMatched(a, numbers); within(found, list) {
			arms = append(arms, a)
			matched = append(matched, found)
		}
	}
	var greatest []impl.Arm
	for i, a := range arms {
		// No two arms match just the same numbers, so another one that covers matches more.
		if !slices.ContainsFunc(matched, func(found []int) bool { return len(found) > len(matched[i]) && within(matched[i], found) }) {
			greatest = append(greatest, a)
		}
	}
	return greatest
}

// plainArmText returns what the document says that ArmText returns for a valid arm of a valid class.
func plainArmText(f impl.Flag, a impl.Arm) string {
	text, told := "", 0
	for _, d := range plainSingles(f.Defs) {
		if hasBit(a.All, d.Value) {
			text += " " + d.Name
			told++
		}
		if hasBit(a.None, d.Value) {
			text += " !" + d.Name
			told++
		}
	}
	switch {
	case told < len(bitsOf(a.All))+len(bitsOf(a.None)):
		return ""
	case told == 0:
		return "*"
	default:
		return strings.TrimPrefix(text, " ")
	}
}

// plainArmTexts returns the arms of a valid class by their texts.
func plainArmTexts(f impl.Flag) map[string]impl.Arm {
	texts := map[string]impl.Arm{}
	for _, a := range plainArms(plainMask(f.Defs)) {
		if s := plainArmText(f, a); s != "" {
			texts[s] = a
		}
	}
	return texts
}

// plainMissedMembers returns what the document says that MissedMembers returns for a valid enumeration.
func plainMissedMembers(e impl.Enum, list []string) []string {
	met := map[int]bool{}
	for _, s := range list {
		value, ok := plainValue(e, s)
		if !ok {
			return nil
		}
		met[value] = true
	}
	var missed []string
	for _, d := range e.Defs {
		if !met[d.Value] {
			missed = append(missed, d.Name)
			met[d.Value] = true
		}
	}
	return missed
}

// someArm returns a valid arm of a class as the generator has it; the higher rare is, the fewer bits it tells.
func someArm(g *generator, f impl.Flag, rare int) impl.Arm {
	var a impl.Arm
	for _, bit := range bitsOf(plainMask(f.Defs)) {
		switch g.below(2 + rare) {
		case 0:
			a.All += bit
		case 1:
			a.None += bit
		}
	}
	return a
}

// flagsForArms are classes of few bits and of many, whose bits have names, none of their own, or none at all.
func flagsForArms() []impl.Flag {
	list := smallFlags()
	for _, bound := range allBounds {
		list = append(list, three(bound), doors(bound), rests(bound), sixBits(bound), sevenBits(bound), flagOf(bound, 2049, 6))
	}
	return append(list, savers(impl.BdFit), fullFlag(impl.BdStrict), fullFlag(impl.BdKeep), flagOf(impl.BdEject, 4095))
}

// arms calls use with valid arms of all kinds of classes: all of them where they are few.
func arms(use func(f impl.Flag, a impl.Arm)) {
	g := generator(19)
	for _, f := range append(flagsForArms(), validFlags()...) {
		mask := plainMask(f.Defs)
		if len(bitsOf(mask)) <= 3 {
			for _, a := range plainArms(mask) {
				use(f, a)
			}
			continue
		}
		for _, a := range []impl.Arm{{}, arm(mask, 0), arm(0, mask), someArm(&g, f, 0), someArm(&g, f, 1), someArm(&g, f, 4)} {
			use(f, a)
		}
	}
}

// armPairs calls use with pairs of valid arms of all kinds of classes.
func armPairs(use func(f impl.Flag, a, b impl.Arm)) {
	for _, bound := range allBounds {
		for _, f := range []impl.Flag{{Bound: bound}, three(bound), flagOf(bound, 5, 4)} {
			list := plainArms(plainMask(f.Defs))
			for _, a := range list {
				for _, b := range list {
					use(f, a, b)
				}
			}
		}
	}
	g := generator(20)
	arms(func(f impl.Flag, a impl.Arm) {
		b := someArm(&g, f, 2)
		use(f, a, b)
		use(f, b, a)
		// One that tells a part of what the first one tells, so that it covers that one.
		use(f, arm(plainAnd(a.All, g.below(impl.MaxFlag+1)), plainAnd(a.None, g.below(impl.MaxFlag+1))), a)
	})
}

// armLists calls use with lists of at most MaxArms valid arms of all kinds of classes.
func armLists(use func(f impl.Flag, list []impl.Arm)) {
	few := plainArms(3)
	sequences(len(few), 3, func(s []int) {
		var list []impl.Arm
		for _, k := range s {
			list = append(list, few[k])
		}
		use(flagOf(allBounds[len(s)], 1, 2), list)
	})
	g := generator(21)
	for _, f := range flagsForArms() {
		use(f, nil)
		for range 20 {
			list := make([]impl.Arm, 1+g.below(impl.MaxArms))
			rare := g.below(4)
			for i := range list {
				list[i] = someArm(&g, f, rare)
				if i > 0 && g.below(6) == 0 {
					list[i] = list[g.below(i)]
				}
			}
			use(f, list)
		}
	}
}

// wantedLists calls use with lists of numbers of classes with at most MaxBits bits, in any order, and with numbers twice.
func wantedLists(use func(f impl.Flag, list []int)) {
	for choice := range 256 {
		var list []int
		for n := range 8 {
			if choice>>n%2 == 1 {
				list = append(list, n)
			}
		}
		use(three(allBounds[choice%4]), list)
	}
	g := generator(22)
	for _, f := range flagsForArms() {
		numbers := plainNumbers(plainMask(f.Defs))
		if len(numbers) > impl.MaxNumbers {
			continue
		}
		use(f, nil)
		use(f, numbers)
		for range 4 {
			var list []int
			a := someArm(&g, f, 3)
			for len(list) < impl.MaxNumbers && g.below(30) > 0 {
				list = append(list, numbers[g.below(len(numbers))])
			}
			use(f, list)
			if list = append(list, plainMatched(a, numbers)...); len(list) <= impl.MaxNumbers {
				use(f, list)
			}
		}
	}
}

// memberLists calls use with enumerations and lists of their names, in any order, and with names twice.
func memberLists(use func(e impl.Enum, list []string)) {
	g := generator(23)
	for _, e := range validEnums() {
		all := namesOf(e)
		use(e, nil)
		use(e, all)
		for range 3 {
			var list []string
			for len(all) > 0 && g.below(5) > 0 {
				list = append(list, all[g.below(len(all))])
			}
			use(e, list)
		}
	}
}
