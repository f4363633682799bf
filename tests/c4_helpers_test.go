package tests

import (
	"math"
	"slices"
	"testing"

	"loop.example/namedflags/impl"
)

// hasBit reports whether a number from 0 to MaxFlag has a power of 2 in its sum.
func hasBit(n, bit int) bool { return n/bit%2 == 1 }

// plainOr, plainAnd, plainXor and plainLess are what the document says of two values, bit by bit.
func plainOr(a, b int) int {
	return sumIf(func(bit int) bool { return hasBit(a, bit) || hasBit(b, bit) })
}

func plainAnd(a, b int) int {
	return sumIf(func(bit int) bool { return hasBit(a, bit) && hasBit(b, bit) })
}

func plainXor(a, b int) int {
	return sumIf(func(bit int) bool { return hasBit(a, bit) != hasBit(b, bit) })
}

func plainLess(a, b int) int {
	return sumIf(func(bit int) bool { return hasBit(a, bit) && !hasBit(b, bit) })
}

// plainIs reports whether a number is a value of a valid class.
func plainIs(f impl.Flag, n int) bool {
	if n < 0 || n > impl.MaxFlag {
		return false
	}
	return f.Bound == impl.BdKeep || plainLess(n, plainMask(f.Defs)) == 0
}

// plainWhole returns the bits in which the values of a valid class are inverted.
func plainWhole(f impl.Flag) int {
	if f.Bound == impl.BdKeep {
		return plainHigh(plainMask(f.Defs))
	}
	return plainMask(f.Defs)
}

// plainCompare returns how two values compare.
func plainCompare(a, b int) int {
	onlyA, onlyB := plainLess(a, b) > 0, plainLess(b, a) > 0
	switch {
	case onlyA && onlyB:
		return 2
	case onlyA:
		return 1
	case onlyB:
		return -1
	default:
		return 0
	}
}

// plainNames returns the names in a value, and its bits that none of them has.
func plainNames(f impl.Flag, a int) ([]string, int) {
	var names []string
	rest := a
	for _, d := range plainSingles(f.Defs) {
		if hasBit(a, d.Value) {
			names = append(names, d.Name)
			rest -= d.Value
		}
	}
	return names, rest
}

// plainParts returns the parts of a value: each of its bits, the least one first, doubles them.
func plainParts(a int) []int {
	if len(bitsOf(a)) > impl.MaxBits {
		return nil
	}
	parts := []int{0}
	for _, bit := range bitsOf(a) {
		for _, n := range slices.Clone(parts) {
			parts = append(parts, n+bit)
		}
	}
	return parts
}

// plainFrom returns the value of names, and whether the class has them all.
func plainFrom(f impl.Flag, list []string) (int, bool) {
	sum := 0
	for _, s := range list {
		value, ok := plainValue(impl.Enum{Defs: f.Defs}, s)
		if !ok {
			return 0, false
		}
		sum = plainOr(sum, value)
	}
	return sum, true
}

// valueOfNames returns FromNames of names that a class has.
func valueOfNames(t *testing.T, f impl.Flag, list []string) int {
	t.Helper()
	n, ok := impl.FromNames(f, list)
	if !ok {
		t.Fatalf("FromNames(%v, %q) = %d, false", f, list, n)
	}
	return n
}

// namesOfFlag returns all names of a class.
func namesOfFlag(f impl.Flag) []string { return namesOf(impl.Enum{Defs: f.Defs}) }

// smallFlags returns classes with few bits, with each bound, whose bits have names, none of their own, or none at all.
func smallFlags() []impl.Flag {
	var list []impl.Flag
	for _, defs := range [][]impl.Def{
		nil, {}, flagOf(0, 0).Defs, flagOf(0, 1, 2, 4).Defs, flagOf(0, 8, 1, 8, 0, 1).Defs, flagOf(0, 5, 4).Defs,
		flagOf(0, 4, 3, 1).Defs, flagOf(0, 6, 12, 6, 0, 12).Defs, flagOf(0, 11).Defs, flagOf(0, 8, 4, 2, 1, 15).Defs,
	} {
		for _, bound := range allBounds {
			list = append(list, impl.Flag{Defs: defs, Bound: bound})
		}
	}
	return list
}

// smallValues returns the values of a class that are not above a number.
func smallValues(f impl.Flag, greatest int) []int {
	var values []int
	for n := 0; n <= greatest; n++ {
		if plainIs(f, n) {
			values = append(values, n)
		}
	}
	return values
}

// someValue returns a value of a class as the generator has it.
func someValue(g *generator, f impl.Flag) int {
	n := g.below(impl.MaxFlag + 1)
	switch g.below(4) {
	case 0:
		n = plainAnd(n, g.below(impl.MaxFlag+1))
	case 1:
		n = plainOr(n, g.below(impl.MaxFlag+1))
	}
	if f.Bound == impl.BdKeep && g.below(4) > 0 {
		return n
	}
	return plainAnd(n, plainMask(f.Defs))
}

// values calls use with values of all kinds of classes: 0, all named bits, all bits, and others.
func values(use func(f impl.Flag, a int)) {
	for _, f := range smallFlags() {
		for _, a := range smallValues(f, 31) {
			use(f, a)
		}
	}
	g := generator(11)
	for _, f := range validFlags() {
		for _, a := range []int{0, plainMask(f.Defs), plainWhole(f), someValue(&g, f), someValue(&g, f)} {
			use(f, a)
		}
		if f.Bound == impl.BdKeep {
			use(f, impl.MaxFlag)
		}
	}
}

// valuePairs calls use with pairs of values of all kinds of classes.
func valuePairs(use func(f impl.Flag, a, b int)) {
	for _, f := range smallFlags() {
		list := smallValues(f, 31)
		for _, a := range list {
			for _, b := range list {
				use(f, a, b)
			}
		}
	}
	g := generator(12)
	for _, f := range validFlags() {
		a, b := someValue(&g, f), someValue(&g, f)
		use(f, a, b)
		use(f, a, plainAnd(a, b))
		use(f, plainAnd(a, b), b)
		use(f, plainWhole(f), b)
		use(f, a, 0)
	}
}

// nameLists calls use with lists of names of all kinds of classes, with names twice and in any order.
func nameLists(use func(f impl.Flag, list []string)) {
	g := generator(13)
	for _, f := range append(validFlags(), smallFlags()...) {
		use(f, nil)
		all := namesOfFlag(f)
		use(f, all)
		for range 3 {
			var list []string
			for len(all) > 0 && g.below(5) > 0 {
				list = append(list, all[g.below(len(all))])
			}
			use(f, list)
		}
	}
}

// nonValues returns numbers that are no values of a valid class.
func nonValues(f impl.Flag) []int {
	list := []int{math.MinInt, -5000, -4097, -4096, -335, -2, -1, 4096, 4097, 4098, 8191, 8192, math.MaxInt}
	for n := range impl.MaxFlag + 1 {
		// A few of the numbers are enough where most have bits that are not named.
		if !plainIs(f, n) && (len(bitsOf(n)) < 3 || n%97 == 0 || n == impl.MaxFlag) {
			list = append(list, n)
		}
	}
	return list
}
