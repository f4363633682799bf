package tests

import (
	"math"
	"slices"

	"loop.example/namedflags/impl"
)

// allBounds are the four bounds.
var allBounds = []int{impl.BdStrict, impl.BdFit, impl.BdEject, impl.BdKeep}

// oddBounds are numbers that are no bounds.
var oddBounds = []int{-1, 4, -4, 1000, math.MinInt, math.MaxInt}

// flagOf returns the class of flags of values, with the names a, b and so on.
func flagOf(bound int, values ...int) impl.Flag {
	return impl.Flag{Defs: enumOf(values...).Defs, Bound: bound}
}

// doors has composed names, two of one value, bits that only they have (8 and 64), a name without bits, and others for two values.
func doors(bound int) impl.Flag {
	return impl.Flag{Defs: []impl.Def{def("in", 4), def("both", 6), def("out", 2), def("none", 0), def("wide", 74), def("enter", 4), def("pair", 6), def("lock", 256)}, Bound: bound}
}

// fullFlag has MaxItems names, one for each bit.
func fullFlag(bound int) impl.Flag {
	return flagOf(bound, 1, 2, 4, 8, 16, 32, 64, 128, 256, 512, 1024, 2048)
}

// itemLists calls use with each list of at most three items, each automatic or not, with some of the values.
func itemLists(values []int, use func(items []impl.Item)) {
	sequences(2*len(values), 3, func(codes []int) {
		items := autos(len(codes))
		for i, k := range codes {
			items[i].Auto, items[i].Value = k%2 == 1, values[k/2]
		}
		use(items)
	})
}

// sameFlag reports whether two classes of flags are the same value.
func sameFlag(a, b impl.Flag) bool {
	return a.Bound == b.Bound && slices.Equal(a.Defs, b.Defs)
}

// withoutLast returns a class without its last name.
func withoutLast(f impl.Flag) impl.Flag {
	return impl.Flag{Defs: f.Defs[:len(f.Defs)-1], Bound: f.Bound}
}

// flagLists returns definitions of valid classes of all sizes: each sequence of a few values, and longer ones.
func flagLists() [][]impl.Def {
	list := [][]impl.Def{nil, {}, doors(0).Defs, fullFlag(0).Defs, flagOf(0, make([]int, impl.MaxItems)...).Defs}
	values := []int{0, 1, 2, 3, 8, 13, 2048, 4095}
	sequences(len(values), 3, func(s []int) {
		for i, k := range s {
			s[i] = values[k]
		}
		list = append(list, enumOf(s...).Defs)
	})
	g := generator(8)
	for range 300 {
		spread := 1 << (1 + g.below(12))
		s := make([]int, g.below(impl.MaxItems+1))
		for i := range s {
			s[i] = g.below(spread)
			if g.below(2) == 0 {
				s[i] = 1 << g.below(12)
			}
		}
		list = append(list, enumOf(s...).Defs)
	}
	return list
}

// validFlags returns the classes of flagLists with each bound.
func validFlags() []impl.Flag {
	var list []impl.Flag
	for _, defs := range flagLists() {
		for _, bound := range allBounds {
			list = append(list, impl.Flag{Defs: defs, Bound: bound})
		}
	}
	return list
}

// invalidLists returns definitions that break each of the rules, at the front and at the back.
func invalidLists() [][]impl.Def {
	list := [][]impl.Def{
		{def("a", 1), def("a", 1)},
		{def("a", 1), def("b", 2), def("a", 4)},
		flagOf(0, 1, 2, 4, 8, 16, 32, 64, 128, 256, 512, 1024, 2048, 0).Defs,
		flagOf(0, make([]int, impl.MaxItems+1)...).Defs,
		make([]impl.Def, 100),
		flagOf(0, 4096).Defs,
		flagOf(0, 1, 2, 4096).Defs,
		flagOf(0, 4097, 2, 3).Defs,
		flagOf(0, -1).Defs,
		flagOf(0, 1, -1).Defs,
		flagOf(0, -4096, 1).Defs,
		flagOf(0, math.MaxInt, math.MinInt).Defs,
		flagOf(0, 1, math.MinInt).Defs,
		flagOf(0, 1, math.MaxInt).Defs,
	}
	for _, s := range oddNames {
		list = append(list, []impl.Def{def(s, 1), def("a", 4)}, []impl.Def{def("a", 1), def("b", 1), def(s, 2)})
	}
	return list
}

// invalidFlags returns classes with definitions that are not valid, with each bound, and good ones with bounds that are none.
func invalidFlags() []impl.Flag {
	var list []impl.Flag
	for _, defs := range invalidLists() {
		for _, bound := range append(oddBounds[:1:1], allBounds...) {
			list = append(list, impl.Flag{Defs: defs, Bound: bound})
		}
	}
	for _, bound := range oddBounds {
		list = append(list, impl.Flag{Bound: bound}, flagOf(bound, 1), doors(bound), fullFlag(bound))
	}
	return list
}

// bitsOf returns the powers of 2 of which a number from 0 to MaxFlag is the sum, ascending.
func bitsOf(n int) []int {
	var bits []int
	for bit := 1; n > 0; bit *= 2 {
		if n%2 == 1 {
			bits = append(bits, bit)
		}
		n /= 2
	}
	return bits
}

// sumIf returns the sum of the bits of MaxFlag that are wanted.
func sumIf(wanted func(bit int) bool) int {
	sum := 0
	for _, bit := range bitsOf(impl.MaxFlag) {
		if wanted(bit) {
			sum += bit
		}
	}
	return sum
}

// plainMask returns the bits of the values of definitions.
func plainMask(list []impl.Def) int {
	return sumIf(func(bit int) bool {
		return slices.ContainsFunc(list, func(d impl.Def) bool { return slices.Contains(bitsOf(d.Value), bit) })
	})
}

// plainSingles returns the first definition of each single bit, by bits.
func plainSingles(list []impl.Def) []impl.Def {
	var singles []impl.Def
	for _, bit := range bitsOf(impl.MaxFlag) {
		if i := slices.IndexFunc(list, func(d impl.Def) bool { return d.Value == bit }); i >= 0 {
			singles = append(singles, list[i])
		}
	}
	return singles
}

// plainHigh returns all bits up to the highest one of a mask.
func plainHigh(mask int) int {
	high := 0
	for high < mask {
		high = 2*high + 1
	}
	return high
}

// plainMake returns what the document says that MakeValue makes of a number with a valid class whose mask is told.
func plainMake(mask, bound, n int) (int, int) {
	if n < -impl.MaxFlag-1 || n > impl.MaxFlag {
		return 0, impl.HwWrong
	}
	if n < 0 {
		within, taken := bitsOf(mask), bitsOf(-n-1)
		if bound == impl.BdKeep {
			within = bitsOf(plainHigh(mask))
		}
		return sumIf(func(bit int) bool { return slices.Contains(within, bit) && !slices.Contains(taken, bit) }), impl.HwOk
	}
	named := sumIf(func(bit int) bool { return slices.Contains(bitsOf(n), bit) && slices.Contains(bitsOf(mask), bit) })
	switch {
	case named == n || bound == impl.BdKeep:
		return n, impl.HwOk
	case bound == impl.BdFit:
		return named, impl.HwOk
	case bound == impl.BdEject:
		return n, impl.HwNumber
	default:
		return 0, impl.HwWrong
	}
}

// edgeNumbers are numbers at the limits of what MakeValue takes, and beyond them.
var edgeNumbers = []int{
	math.MinInt, -5000, -4098, -4097, -4096, -4095, -4094, -2049, -2048, -17, -5, -4, -3, -2, -1,
	0, 1, 2, 3, 4, 7, 16, 255, 2047, 2048, 4094, 4095, 4096, 4097, 8191, 8192, math.MaxInt,
}
