package tests

import (
	"slices"
	"testing"

	"loop.example/namedflags/impl"
)

func TestOperationsAreBitByBit(t *testing.T) {
	valuePairs(func(f impl.Flag, a, b int) {
		checkPair(t, f, pairCase{a, b, plainOr(a, b), plainAnd(a, b), plainXor(a, b), plainLess(a, b)})
		if want := plainCompare(a, b); impl.CompareValues(f, a, b) != want || impl.HasAll(f, a, b) != (want == 0 || want == 1) {
			t.Fatalf("%v: CompareValues(%d, %d) = %d, HasAll = %v", f, a, b, impl.CompareValues(f, a, b), impl.HasAll(f, a, b))
		}
	})
}

func TestValuesAreTakenBitByBit(t *testing.T) {
	values(func(f impl.Flag, a int) {
		names, rest := plainNames(f, a)
		checkNames(t, f, namesCase{a, names, rest, len(bitsOf(a))})
		if n := impl.InvertValue(f, a); n != plainLess(plainWhole(f), a) {
			t.Fatalf("InvertValue(%v, %d) = %d", f, a, n)
		}
		if parts := impl.PartsOf(f, a); !slices.Equal(parts, plainParts(a)) {
			t.Fatalf("PartsOf(%v, %d) = %v", f, a, parts)
		}
	})
}

func TestP25AutomaticBitsAreNew(t *testing.T) {
	automatic := 0
	check := func(items []impl.Item) {
		f, ok := impl.BuildFlag(items, impl.BdStrict)
		if _, fits := plainBuild(items); ok != fits {
			t.Fatalf("BuildFlag(%v) = %v, %v", items, f, ok)
		}
		if !ok {
			return
		}
		greatest := 0
		for i, item := range items {
			value := valueOfNames(t, f, []string{item.Name})
			if f.Defs[i].Name != item.Name || f.Defs[i].Value != value || !item.Auto && value != item.Value {
				t.Fatalf("BuildFlag(%v) = %v", items, f)
			}
			if item.Auto {
				automatic++
				if impl.CountBits(f, value) != 1 || value <= greatest || value/2 > greatest {
					t.Fatalf("BuildFlag(%v) = %v: %d is not the least bit above %d", items, f, value, greatest)
				}
			}
			greatest = max(greatest, value)
		}
	}
	itemLists([]int{0, 1, 3, 4, 9, 2047, 2048}, check)
	g := generator(14)
	for range 2000 {
		items := autos(g.below(impl.MaxItems + 1))
		for i := range items {
			if g.below(3) == 0 {
				items[i] = own(items[i].Name, g.below(1<<(1+g.below(8))))
			}
		}
		check(items)
	}
	if automatic < 1000 {
		t.Errorf("only %d items are automatic", automatic)
	}
}

func TestP26MasksHaveAllBits(t *testing.T) {
	for _, f := range validFlags() {
		mask := impl.MaskOf(f)
		if all := valueOfNames(t, f, namesOfFlag(f)); all != mask {
			t.Fatalf("%v: MaskOf = %d, FromNames of all names = %d", f, mask, all)
		}
		parts := impl.PartsOf(f, mask)
		for _, d := range f.Defs {
			if !impl.HasAll(f, mask, d.Value) || parts != nil && !slices.Contains(parts, d.Value) {
				t.Fatalf("%v: %d is no part of MaskOf, which is %d", f, d.Value, mask)
			}
		}
	}
	values(func(f impl.Flag, a int) {
		if f.Bound != impl.BdKeep && !impl.HasAll(f, impl.MaskOf(f), a) {
			t.Fatalf("%v: %d is no part of MaskOf, which is %d", f, a, impl.MaskOf(f))
		}
	})
}

func TestP27SingleNamesHaveOneBit(t *testing.T) {
	for _, f := range validFlags() {
		singles := impl.SinglesOf(f)
		if names := impl.NamesIn(f, impl.MaskOf(f)); !slices.Equal(names, singles) {
			t.Fatalf("%v: SinglesOf = %q, NamesIn MaskOf = %q", f, singles, names)
		}
		before := 0
		for _, s := range singles {
			value := valueOfNames(t, f, []string{s})
			if impl.CountBits(f, value) != 1 || value <= before {
				t.Fatalf("%v: SinglesOf = %q, with %d behind %d", f, singles, value, before)
			}
			before = value
		}
	}
}

func TestP28ComposedNamesHaveSeveralBits(t *testing.T) {
	for _, f := range validFlags() {
		singles, composed := impl.SinglesOf(f), impl.ComposedOf(f)
		for _, s := range namesOfFlag(f) {
			count := impl.CountBits(f, valueOfNames(t, f, []string{s}))
			if slices.Contains(composed, s) != (count > 1) || slices.Contains(singles, s) && count != 1 {
				t.Fatalf("%v: %s has %d bits, SinglesOf = %q, ComposedOf = %q", f, s, count, singles, composed)
			}
		}
	}
}

func TestP29LooseBitsHaveNoName(t *testing.T) {
	loose := 0
	for _, f := range validFlags() {
		mask, bits := impl.MaskOf(f), impl.LooseBits(f)
		if rest := impl.RestIn(f, mask); rest != bits {
			t.Fatalf("%v: LooseBits = %d, RestIn MaskOf = %d", f, bits, rest)
		}
		if single := valueOfNames(t, f, impl.SinglesOf(f)); (bits == 0) != (single == mask) || single+bits != mask {
			t.Fatalf("%v: LooseBits = %d, MaskOf = %d, FromNames of SinglesOf = %d", f, bits, mask, single)
		}
		if bits > 0 {
			loose++
		}
	}
	if loose < 1000 {
		t.Errorf("only %d classes have loose bits", loose)
	}
}

func TestP30HighBitsAreAllBelow(t *testing.T) {
	for _, f := range validFlags() {
		mask, high := impl.MaskOf(f), impl.HighOf(f)
		kept, ok := impl.WithBound(f, impl.BdKeep)
		if !ok || !impl.HasAll(kept, high, mask) {
			t.Fatalf("%v: HighOf = %d, MaskOf = %d", f, high, mask)
		}
		if !slices.Contains([]int{0, 1, 3, 7, 15, 31, 63, 127, 255, 511, 1023, 2047, 4095}, high) {
			t.Fatalf("%v: HighOf = %d", f, high)
		}
		if (high > 0 || mask > 0) && high/2 >= mask {
			t.Fatalf("%v: half of HighOf is %d, MaskOf = %d", f, high/2, mask)
		}
	}
}

func TestP32BoundsDifferOnlyInBitsThatAreNotNamed(t *testing.T) {
	named, others := 0, 0
	for _, f := range validFlags() {
		kept, ok := impl.WithBound(f, impl.BdKeep)
		if !ok {
			t.Fatalf("WithBound(%v) = false", f)
		}
		for _, n := range []int{0, 1, 2, 5, 8, 13, 334, 2048, 2049, 4095, plainMask(f.Defs)} {
			value, how := impl.MakeValue(f, n)
			if impl.HasAll(kept, impl.MaskOf(f), n) {
				named++
				if value != n || how != impl.HwOk || !impl.IsValue(f, n) {
					t.Fatalf("MakeValue(%v, %d) = %d, %d", f, n, value, how)
				}
				continue
			}
			others++
			if (how == impl.HwOk) != (f.Bound == impl.BdFit || f.Bound == impl.BdKeep) {
				t.Fatalf("MakeValue(%v, %d) = %d, %d", f, n, value, how)
			}
			if f.Bound == impl.BdFit && value != impl.AndValues(kept, n, impl.MaskOf(f)) {
				t.Fatalf("MakeValue(%v, %d) = %d, %d", f, n, value, how)
			}
		}
	}
	if named < 1000 || others < 1000 {
		t.Errorf("only %d numbers have named bits alone, %d have others", named, others)
	}
}

func TestP33NumbersBelow0AreInverted(t *testing.T) {
	values(func(f impl.Flag, a int) {
		value, how := impl.MakeValue(f, -1-a)
		if inverted := impl.InvertValue(f, a); how != impl.HwOk || value != inverted || value != plainLess(plainWhole(f), a) {
			t.Fatalf("%v: MakeValue(%d) = %d, %d, InvertValue(%d) = %d", f, -1-a, value, how, a, inverted)
		}
	})
}

func TestP34ValuesHaveNamedBits(t *testing.T) {
	flags := smallFlags()
	for _, bound := range allBounds {
		flags = append(flags, doors(bound), fullFlag(bound), flagOf(bound, 2049, 6), flagOf(bound, 2730))
	}
	for _, f := range flags {
		kept, ok := impl.WithBound(f, impl.BdKeep)
		parts := impl.PartsOf(f, impl.MaskOf(f))
		for n := -5; n <= impl.MaxFlag+5; n++ {
			within := n >= 0 && n <= impl.MaxFlag
			if ok && impl.IsValue(kept, n) != within {
				t.Fatalf("IsValue(%v, %d) = %v", kept, n, !within)
			}
			if f.Bound == impl.BdKeep {
				continue
			}
			part := within && impl.HasAll(kept, impl.MaskOf(f), n)
			if impl.IsValue(f, n) != part || parts != nil && slices.Contains(parts, n) != part {
				t.Fatalf("IsValue(%v, %d) = %v, PartsOf MaskOf = %v", f, n, !part, parts)
			}
		}
	}
}

func TestP36OrIsTheLeastAboveBoth(t *testing.T) {
	valuePairs(func(f impl.Flag, a, b int) {
		or := impl.OrValues(f, a, b)
		if !impl.HasAll(f, or, a) || !impl.HasAll(f, or, b) || impl.OrValues(f, b, a) != or {
			t.Fatalf("OrValues(%v, %d, %d) = %d", f, a, b, or)
		}
		if a+impl.LessValues(f, b, a) != or || b+impl.LessValues(f, a, b) != or {
			t.Fatalf("OrValues(%v, %d, %d) = %d, LessValues = %d", f, a, b, or, impl.LessValues(f, a, b))
		}
	})
	valueTriples(func(f impl.Flag, a, b, above int) {
		if impl.HasAll(f, above, a) && impl.HasAll(f, above, b) && !impl.HasAll(f, above, impl.OrValues(f, a, b)) {
			t.Fatalf("OrValues(%v, %d, %d) = %d, which is not below %d", f, a, b, impl.OrValues(f, a, b), above)
		}
	})
}

func TestP37AndIsTheGreatestBelowBoth(t *testing.T) {
	valuePairs(func(f impl.Flag, a, b int) {
		and := impl.AndValues(f, a, b)
		if !impl.HasAll(f, a, and) || !impl.HasAll(f, b, and) || impl.AndValues(f, b, a) != and {
			t.Fatalf("AndValues(%v, %d, %d) = %d", f, a, b, and)
		}
		if and+impl.OrValues(f, a, b) != a+b {
			t.Fatalf("%v: AndValues(%d, %d) = %d, OrValues = %d", f, a, b, and, impl.OrValues(f, a, b))
		}
	})
	valueTriples(func(f impl.Flag, a, b, below int) {
		if impl.HasAll(f, a, below) && impl.HasAll(f, b, below) && !impl.HasAll(f, impl.AndValues(f, a, b), below) {
			t.Fatalf("AndValues(%v, %d, %d) = %d, which is not above %d", f, a, b, impl.AndValues(f, a, b), below)
		}
	})
}

// valueTriples calls use with three values of one class.
func valueTriples(use func(f impl.Flag, a, b, c int)) {
	for _, f := range smallFlags() {
		// Beyond the named bits, which are below 16, a few that are kept are enough.
		list := slices.DeleteFunc(smallValues(f, 31), func(n int) bool { return n > 15 && n%5 > 0 })
		for _, a := range list {
			for _, b := range list {
				for _, c := range list {
					use(f, a, b, c)
				}
			}
		}
	}
	g := generator(15)
	for _, f := range validFlags() {
		use(f, someValue(&g, f), someValue(&g, f), someValue(&g, f))
	}
}

func TestP38EitherSpreadsOverBoth(t *testing.T) {
	valueTriples(func(f impl.Flag, a, b, c int) {
		joined := impl.AndValues(f, a, impl.OrValues(f, b, c))
		spread := impl.OrValues(f, impl.AndValues(f, a, b), impl.AndValues(f, a, c))
		if joined < 0 || joined != spread {
			t.Fatalf("%v: %d and (%d or %d) is %d, and spread %d", f, a, b, c, joined, spread)
		}
	})
}

func TestP39XorUndoesItself(t *testing.T) {
	valuePairs(func(f impl.Flag, a, b int) {
		xor := impl.XorValues(f, a, b)
		if impl.XorValues(f, xor, b) != a || impl.XorValues(f, xor, a) != b {
			t.Fatalf("XorValues(%v, %d, %d) = %d, which is not undone", f, a, b, xor)
		}
		if xor != impl.LessValues(f, impl.OrValues(f, a, b), impl.AndValues(f, a, b)) {
			t.Fatalf("XorValues(%v, %d, %d) = %d", f, a, b, xor)
		}
	})
}

func TestP40WhatIsTakenAwayIsGone(t *testing.T) {
	valuePairs(func(f impl.Flag, a, b int) {
		less, and := impl.LessValues(f, a, b), impl.AndValues(f, a, b)
		if impl.AndValues(f, less, b) != 0 || impl.OrValues(f, less, and) != a || less+and != a {
			t.Fatalf("%v: LessValues(%d, %d) = %d, AndValues = %d", f, a, b, less, and)
		}
	})
}

func TestP41InvertedValuesHaveNothingInCommon(t *testing.T) {
	named, others := 0, 0
	values(func(f impl.Flag, a int) {
		inverted := impl.InvertValue(f, a)
		if impl.AndValues(f, a, inverted) != 0 {
			t.Fatalf("InvertValue(%v, %d) = %d", f, a, inverted)
		}
		twice := impl.InvertValue(f, inverted)
		if plainLess(a, impl.MaskOf(f)) == 0 {
			named++
			if twice != a {
				t.Fatalf("InvertValue(%v, %d) = %d, and inverted again %d", f, a, inverted, twice)
			}
			return
		}
		others++
		if twice != plainAnd(a, impl.HighOf(f)) {
			t.Fatalf("InvertValue(%v, %d) = %d, and inverted again %d", f, a, inverted, twice)
		}
	})
	if named < 1000 || others < 1000 {
		t.Errorf("only %d values have named bits alone, %d have others", named, others)
	}
}

func TestP42OrAndAndTurnRound(t *testing.T) {
	valuePairs(func(f impl.Flag, a, b int) {
		invertedA, invertedB := impl.InvertValue(f, a), impl.InvertValue(f, b)
		if neither := impl.InvertValue(f, impl.OrValues(f, a, b)); neither < 0 || neither != impl.AndValues(f, invertedA, invertedB) {
			t.Fatalf("%v: neither %d nor %d is %d", f, a, b, neither)
		}
		if notBoth := impl.InvertValue(f, impl.AndValues(f, a, b)); notBoth < 0 || notBoth != impl.OrValues(f, invertedA, invertedB) {
			t.Fatalf("%v: not both of %d and %d is %d", f, a, b, notBoth)
		}
	})
}

func TestP43HavingAllIsOfBits(t *testing.T) {
	all, others := 0, 0
	valuePairs(func(f impl.Flag, a, b int) {
		has := impl.HasAll(f, a, b)
		if has != (impl.AndValues(f, a, b) == b) || has != (impl.OrValues(f, a, b) == a) {
			t.Fatalf("HasAll(%v, %d, %d) = %v", f, a, b, has)
		}
		if has {
			all++
		} else {
			others++
		}
	})
	if all < 1000 || others < 1000 {
		t.Errorf("only %d values have all bits, %d do not", all, others)
	}
}

func TestP44NamesAndRestAreTheValue(t *testing.T) {
	values(func(f impl.Flag, a int) {
		named, rest := valueOfNames(t, f, impl.NamesIn(f, a)), impl.RestIn(f, a)
		if impl.OrValues(f, named, rest) != a || named+rest != a {
			t.Fatalf("%v: the names in %d have %d, the rest is %d", f, a, named, rest)
		}
	})
}

func TestP45NamesOfEitherAreThoseOfBoth(t *testing.T) {
	valuePairs(func(f impl.Flag, a, b int) {
		namesA, namesB := impl.NamesIn(f, a), impl.NamesIn(f, b)
		var either []string
		for _, s := range impl.SinglesOf(f) {
			if slices.Contains(namesA, s) || slices.Contains(namesB, s) {
				either = append(either, s)
			}
		}
		if names := impl.NamesIn(f, impl.OrValues(f, a, b)); !slices.Equal(names, either) {
			t.Fatalf("%v: NamesIn(%d) = %q, NamesIn(%d) = %q, either %q", f, a, namesA, b, namesB, names)
		}
	})
}

func TestP46RestsHaveNoNames(t *testing.T) {
	rests := 0
	values(func(f impl.Flag, a int) {
		rest := impl.RestIn(f, a)
		// A rest is a part of the value, so that it is one with each bound.
		if !impl.HasAll(f, a, rest) || impl.NamesIn(f, rest) != nil || impl.RestIn(f, rest) != rest {
			t.Fatalf("%v: RestIn(%d) = %d, which has %q", f, a, rest, impl.NamesIn(f, rest))
		}
		if rest > 0 && f.Bound == impl.BdKeep {
			rests++
		}
	})
	if rests < 1000 {
		t.Errorf("only %d values have a rest", rests)
	}
}

func TestP47BitsAreCountedOnce(t *testing.T) {
	valuePairs(func(f impl.Flag, a, b int) {
		or, and := impl.OrValues(f, a, b), impl.AndValues(f, a, b)
		if impl.CountBits(f, a)+impl.CountBits(f, b) != impl.CountBits(f, or)+impl.CountBits(f, and) {
			t.Fatalf("%v: CountBits of %d, %d, %d and %d", f, a, b, or, and)
		}
		if impl.CountBits(f, a) < len(impl.NamesIn(f, a)) || impl.CountBits(f, a) != len(bitsOf(a)) {
			t.Fatalf("%v: CountBits(%d) = %d, NamesIn = %q", f, a, impl.CountBits(f, a), impl.NamesIn(f, a))
		}
	})
}

func TestP48ValuesAreComparedByBits(t *testing.T) {
	met := map[int]int{}
	turned := map[int]int{-1: 1, 0: 0, 1: -1, 2: 2}
	valuePairs(func(f impl.Flag, a, b int) {
		there, back := impl.CompareValues(f, a, b), impl.CompareValues(f, b, a)
		if want, ok := turned[there]; !ok || back != want || (there == 0) != (a == b) {
			t.Fatalf("%v: CompareValues(%d, %d) = %d, and turned round %d", f, a, b, there, back)
		}
		if (there == -1 || there == 0) != impl.HasAll(f, b, a) {
			t.Fatalf("CompareValues(%v, %d, %d) = %d", f, a, b, there)
		}
		met[there]++
	})
	for there := range turned {
		if met[there] < 1000 {
			t.Errorf("only %d pairs compare as %d", met[there], there)
		}
	}
}

func TestP49PartsAreAllParts(t *testing.T) {
	told, many := 0, 0
	values(func(f impl.Flag, a int) {
		parts := impl.PartsOf(f, a)
		if impl.CountBits(f, a) > impl.MaxBits {
			many++
			if parts != nil {
				t.Fatalf("PartsOf(%v, %d) = %v", f, a, parts)
			}
			return
		}
		told++
		if len(parts) != 1<<impl.CountBits(f, a) || parts[0] != 0 || parts[len(parts)-1] != a {
			t.Fatalf("PartsOf(%v, %d) = %v", f, a, parts)
		}
		for i, n := range parts {
			if !impl.HasAll(f, a, n) || i > 0 && parts[i-1] >= n {
				t.Fatalf("PartsOf(%v, %d) = %v", f, a, parts)
			}
		}
	})
	if told < 1000 || many < 1000 {
		t.Errorf("only the parts of %d values are told, those of %d are not", told, many)
	}
}

func TestP50NamesAddUp(t *testing.T) {
	var before []string
	nameLists(func(f impl.Flag, list []string) {
		n := valueOfNames(t, f, list)
		if want, ok := plainFrom(f, list); !ok || n != want || !impl.IsValue(f, n) {
			t.Fatalf("FromNames(%v, %q) = %d", f, list, n)
		}
		for cut := range len(list) + 1 {
			one, other := valueOfNames(t, f, list[:cut]), valueOfNames(t, f, list[cut:])
			if impl.OrValues(f, one, other) != n {
				t.Fatalf("FromNames(%v, %q) = %d, but %d and %d of its parts", f, list, n, one, other)
			}
		}
		// The list before may be of another class, which can have names that this one does not.
		both := slices.Concat(before, list)
		sum, ok := impl.FromNames(f, both)
		if want, fits := plainFrom(f, both); ok != fits || sum != want {
			t.Fatalf("FromNames(%v, %q) = %d, %v", f, both, sum, ok)
		}
		before = list
	})
}
