package tests

import (
	"math"
	"slices"
	"testing"

	"loop.example/namedflags/impl"
)

// nameCase is a name with the member that it has in the other enumeration; "" if there is none.
type nameCase struct{ s, want string }

// checkByName checks ByName of names.
func checkByName(t *testing.T, a, b impl.Enum, list []nameCase) {
	t.Helper()
	for _, k := range list {
		if name, ok := impl.ByName(a, b, k.s); !sameName(name, ok, k.want, k.want != "") {
			t.Errorf("ByName(%v, %v, %q) = %q, %v", a, b, k.s, name, ok)
		}
	}
}

// checkByValue checks ByValue of names.
func checkByValue(t *testing.T, a, b impl.Enum, list []nameCase) {
	t.Helper()
	for _, k := range list {
		if name, ok := impl.ByValue(a, b, k.s); !sameName(name, ok, k.want, k.want != "") {
			t.Errorf("ByValue(%v, %v, %q) = %q, %v", a, b, k.s, name, ok)
		}
	}
}

// noNames returns cases of names that have nothing.
func noNames(names ...string) []nameCase {
	var list []nameCase
	for _, s := range names {
		list = append(list, nameCase{s, ""})
	}
	return list
}

func TestByName(t *testing.T) {
	a, b := colours(), tones()
	checkByName(t, a, b, []nameCase{{"red", "rot"}, {"rot", "rot"}, {"rouge", "rouge"}, {"bleu", "bleu"}, {"off", "bleu"}})
	checkByName(t, b, a, []nameCase{{"red", "red"}, {"rot", "red"}, {"rouge", "red"}, {"bleu", "blue"}, {"off", "off"}})
	checkByName(t, a, a, []nameCase{{"red", "red"}, {"rot", "red"}, {"rouge", "red"}, {"blue", "blue"}, {"bleu", "blue"}, {"off", "off"}})
	checkByName(t, fullEnum(), fullEnum(), []nameCase{{"a", "a"}, {"l", "l"}})
}

func TestByNameWhereOnlyOneHasTheName(t *testing.T) {
	a, b := colours(), tones()
	// The members of off and blue are others, but it is the name that counts.
	checkByName(t, a, b, noNames("blue", "ink", "one"))
	checkByName(t, b, a, noNames("ink", "one", "blue"))
	for _, e := range []impl.Enum{a, b, {}, defs([]impl.Def{}...)} {
		checkByName(t, e, b, noNames(strangeNames...))
		checkByName(t, impl.Enum{}, e, noNames("", "a", "red"))
		checkByName(t, e, impl.Enum{}, noNames("", "a", "red"))
	}
}

func TestByValue(t *testing.T) {
	a, b := colours(), tones()
	checkByValue(t, a, b, []nameCase{{"red", "rouge"}, {"rot", "rouge"}, {"rouge", "rouge"}, {"off", "one"}})
	checkByValue(t, b, a, []nameCase{{"rouge", "red"}, {"one", "off"}})
	checkByValue(t, a, a, []nameCase{{"red", "red"}, {"rot", "red"}, {"rouge", "red"}, {"blue", "blue"}, {"bleu", "blue"}, {"off", "off"}})
	checkByValue(t, enumOf(-1000, 1000), defs(def("x", 1000), def("y", 1000), def("z", -1000)), []nameCase{{"a", "z"}, {"b", "x"}})
}

func TestByValueWhereOnlyOneHasTheValue(t *testing.T) {
	a, b := colours(), tones()
	// The other one has some of these names, but with other values.
	checkByValue(t, a, b, noNames("blue", "bleu", "ink", "one"))
	checkByValue(t, b, a, noNames("bleu", "ink", "off", "red", "rot", "blue"))
	for _, e := range []impl.Enum{a, b, {}, defs([]impl.Def{}...)} {
		checkByValue(t, e, a, noNames(strangeNames...))
		checkByValue(t, impl.Enum{}, e, noNames("", "a", "red"))
		checkByValue(t, e, impl.Enum{}, noNames("", "a", "red"))
	}
	// What is not there has no value, not even 0.
	checkByValue(t, enumOf(1), enumOf(0), noNames("b", ""))
}

// rankCases are enumerations with the ranks of their names: values out of order, below 0, of several names, and at the limits.
var rankCases = []struct {
	e     impl.Enum
	ranks []int
}{
	{impl.Enum{}, nil},
	{impl.Enum{Defs: []impl.Def{}}, nil},
	{enumOf(0), []int{0}},
	{enumOf(1000), []int{0}},
	{enumOf(-1000), []int{0}},
	{enumOf(7, 5, 6), []int{0, 1, 2}},
	{enumOf(5, 5, 5), []int{0, 0, 0}},
	{enumOf(1000, -1000, 0, -1000), []int{0, 1, 2, 1}},
	{enumOf(2, 1, 0), []int{0, 1, 2}},
	{enumOf(-3, -1, -3, -2, -1, -3), []int{0, 1, 0, 2, 1, 0}},
	{colours(), []int{0, 1, 0, 2, 0, 1}},
	{tones(), []int{0, 1, 0, 2, 1, 0, 3}},
	{fullEnum(), []int{0, 1, 2, 3, 4, 5, 6, 7, 8, 9, 10, 11}},
	{enumOf(9, 8, 9, 7, 8, 9, 6, 7, 8, 9, 5, 4), []int{0, 1, 0, 2, 1, 0, 3, 2, 1, 0, 4, 5}},
	{enumOf(1, 1, 1, 1, 1, 1, 1, 1, 1, 1, 1, 0), []int{0, 0, 0, 0, 0, 0, 0, 0, 0, 0, 0, 1}},
}

func TestRenumberAndFlagOf(t *testing.T) {
	for _, k := range rankCases {
		var numbered impl.Enum
		var flag impl.Flag
		for i, s := range namesOf(k.e) {
			numbered.Defs = append(numbered.Defs, def(s, k.ranks[i]))
			flag.Defs = append(flag.Defs, def(s, []int{1, 2, 4, 8, 16, 32, 64, 128, 256, 512, 1024, 2048}[k.ranks[i]]))
		}
		if e := impl.Renumber(k.e); !sameEnum(e, numbered) {
			t.Errorf("Renumber(%v) = %v", k.e, e)
		}
		if f := impl.FlagOf(k.e); !sameFlag(f, flag) || f.Bound != impl.BdStrict {
			t.Errorf("FlagOf(%v) = %v", k.e, f)
		}
	}
	if f := impl.FlagOf(fullEnum()); !sameFlag(f, fullFlag(impl.BdStrict)) {
		t.Errorf("FlagOf(%v) = %v", fullEnum(), f)
	}
}

func TestEnumOf(t *testing.T) {
	for _, bound := range allBounds {
		for _, k := range []struct {
			f    impl.Flag
			want impl.Enum
		}{
			{impl.Flag{Bound: bound}, impl.Enum{}},
			// Names of nothing, composed names and several names of one bit.
			{doors(bound), defs(def("in", 2), def("out", 1), def("enter", 2), def("lock", 8))},
			{rests(bound), defs(def("r", 2), def("w", 1), def("x", 0))},
			{flagOf(bound, 8, 1, 8, 0, 1, 3), defs(def("a", 3), def("b", 0), def("c", 3), def("e", 0))},
			{flagOf(bound, 0, 0), impl.Enum{}},
			{flagOf(bound, 4095, 3, 6, 2049), impl.Enum{}},
			{flagOf(bound, 1), enumOf(0)},
			{flagOf(bound, 2048), enumOf(11)},
			{flagOf(bound, 2048, 4, 4, 2048), enumOf(11, 2, 2, 11)},
			{fullFlag(bound), enumOf(0, 1, 2, 3, 4, 5, 6, 7, 8, 9, 10, 11)},
			{flagOf(bound, 4, 4, 4, 4, 4, 4, 4, 4, 4, 4, 4, 4), enumOf(2, 2, 2, 2, 2, 2, 2, 2, 2, 2, 2, 2)},
		} {
			if e := impl.EnumOf(k.f); !sameEnum(e, k.want) {
				t.Errorf("EnumOf(%v) = %v", k.f, e)
			}
		}
	}
}

func TestSetOf(t *testing.T) {
	for _, k := range []struct {
		list []string
		want int
	}{
		{nil, 0},
		{[]string{}, 0},
		{[]string{"red"}, 1},
		{[]string{"rot"}, 1},
		{[]string{"rouge", "rot", "red"}, 1},
		{[]string{"red", "red"}, 1},
		{[]string{"bleu"}, 2},
		{[]string{"bleu", "bleu", "blue"}, 2},
		{[]string{"off"}, 4},
		{[]string{"off", "rot", "red"}, 5},
		{[]string{"off", "bleu"}, 6},
		{[]string{"red", "blue", "off"}, 7},
		{[]string{"red", "blue", "rot", "off", "rouge", "bleu"}, 7},
		{slices.Repeat([]string{"off", "rouge", "off"}, 200), 5},
	} {
		if n, ok := impl.SetOf(colours(), k.list); !ok || n != k.want {
			t.Errorf("SetOf(%v, %q) = %d, %v", colours(), k.list, n, ok)
		}
	}
	if n, ok := impl.SetOf(fullEnum(), namesOf(fullEnum())); !ok || n != 4095 {
		t.Errorf("SetOf(%v) of all names = %d, %v", fullEnum(), n, ok)
	}
	if n, ok := impl.SetOf(fullEnum(), []string{"l", "a"}); !ok || n != 2049 {
		t.Errorf("SetOf(%v) of the last name and the first one = %d, %v", fullEnum(), n, ok)
	}
}

func TestSetOfNamesThatAreNotThere(t *testing.T) {
	for _, s := range strangeNames {
		for _, list := range [][]string{{s}, {s, "red"}, {"red", s}, {"blue", s, "off"}, {"red", "blue", "off", s}} {
			for _, e := range []impl.Enum{colours(), {}} {
				if n, ok := impl.SetOf(e, list); ok || n != 0 {
					t.Errorf("SetOf(%v, %q) = %d, %v", e, list, n, ok)
				}
			}
		}
	}
	for _, e := range []impl.Enum{{}, defs([]impl.Def{}...)} {
		if n, ok := impl.SetOf(e, nil); !ok || n != 0 {
			t.Errorf("SetOf(%v) of no names = %d, %v", e, n, ok)
		}
	}
}

func TestMembersIn(t *testing.T) {
	for n, want := range [][]string{nil, {"red"}, {"blue"}, {"red", "blue"}, {"off"}, {"red", "off"}, {"blue", "off"}, {"red", "blue", "off"}} {
		if names := impl.MembersIn(colours(), n); !slices.Equal(names, want) {
			t.Errorf("MembersIn(%v, %d) = %q", colours(), n, names)
		}
	}
	full := fullEnum()
	if names := impl.MembersIn(full, 4095); !slices.Equal(names, namesOf(full)) {
		t.Errorf("MembersIn(%v, 4095) = %q", full, names)
	}
	if names := impl.MembersIn(full, 2049); !slices.Equal(names, []string{"a", "l"}) {
		t.Errorf("MembersIn(%v, 2049) = %q", full, names)
	}
}

func TestMembersInNumbersThatAreNoValues(t *testing.T) {
	for _, k := range []struct {
		e    impl.Enum
		list []int
	}{
		// FlagOf is strict, so that a number with any other bit has no members at all.
		{colours(), []int{8, 9, 15, 16, 2048, 4095}},
		{enumOf(4, 4, 4), []int{2, 3, 4, 4095}},
		{impl.Enum{}, []int{1, 2, 4095}},
		{fullEnum(), nil},
	} {
		for _, n := range append(k.list, -1, -2, -8, -4096, -4097, 4096, 4097, 8191, math.MinInt, math.MinInt+1, math.MaxInt) {
			if names := impl.MembersIn(k.e, n); names != nil {
				t.Errorf("MembersIn(%v, %d) = %q", k.e, n, names)
			}
		}
	}
	for _, e := range []impl.Enum{{}, defs([]impl.Def{}...)} {
		if names := impl.MembersIn(e, 0); names != nil {
			t.Errorf("MembersIn(%v, 0) = %q", e, names)
		}
	}
}

// checkConvert checks a value that is converted; want is -1 if there is none.
func checkConvert(t *testing.T, f, g impl.Flag, a, want int) {
	t.Helper()
	n, ok := impl.ConvertValue(f, g, a)
	if ok != (want >= 0) || n != max(want, 0) {
		t.Errorf("ConvertValue(%v, %v, %d) = %d, %v, want %d", f, g, a, n, ok, want)
	}
	if ok && !impl.IsValue(g, n) {
		t.Errorf("ConvertValue(%v, %v, %d) = %d, which is no value", f, g, a, n)
	}
}

func TestConvertValue(t *testing.T) {
	for _, bound := range allBounds {
		for _, other := range allBounds {
			f := rests(bound)
			// A name that stands for several bits there, one for none, and one that f does not have.
			g := impl.Flag{Defs: []impl.Def{def("w", 1), def("r", 12), def("x", 0), def("y", 32), def("rw", 64)}, Bound: other}
			for _, k := range [][2]int{{0, 0}, {1, 0}, {2, 1}, {3, 1}, {4, 12}, {5, 12}, {6, 13}, {7, 13}} {
				checkConvert(t, f, g, k[0], k[1])
			}
			// Two names for one bit there, and the name x is not there.
			g = impl.Flag{Defs: []impl.Def{def("r", 1), def("w", 1)}, Bound: other}
			for _, k := range [][2]int{{0, 0}, {1, -1}, {2, 1}, {3, -1}, {4, 1}, {5, -1}, {6, 1}, {7, -1}} {
				checkConvert(t, f, g, k[0], k[1])
			}
			// Only the first name of a bit counts: enter is there, but in is not, and composed names do not help.
			g = impl.Flag{Defs: []impl.Def{def("enter", 8), def("both", 3), def("out", 4), def("lock", 4095)}, Bound: other}
			for _, k := range [][2]int{{0, 0}, {2, 4}, {4, -1}, {6, -1}, {256, 4095}, {258, 4095}, {260, -1}} {
				checkConvert(t, doors(bound), g, k[0], k[1])
			}
			checkConvert(t, fullFlag(bound), fullFlag(other), 4095, 4095)
			checkConvert(t, fullFlag(bound), flagOf(other, 2048, 1024, 512, 256, 128, 64, 32, 16, 8, 4, 2, 1), 1028, 514)
			checkConvert(t, flagOf(bound, 1, 2, 4), flagOf(other, 0, 0, 0), 7, 0)
		}
	}
}

func TestConvertValueToTheClassItself(t *testing.T) {
	for _, bound := range allBounds {
		for _, k := range []struct {
			f    impl.Flag
			list []int
		}{
			{rests(bound), []int{0, 1, 2, 3, 4, 5, 6, 7}},
			{doors(bound), []int{0, 2, 4, 6, 256, 258, 260, 262}},
			{fullFlag(bound), []int{0, 1, 2730, 4095}},
			{impl.Flag{Bound: bound}, []int{0}},
		} {
			for _, a := range k.list {
				checkConvert(t, k.f, k.f, a, a)
			}
		}
	}
}

func TestConvertValueWithARest(t *testing.T) {
	for _, bound := range allBounds {
		// The 8 is only in the composed name most, the 16 is in none.
		list := []int{8, 9, 14, 15}
		if bound == impl.BdKeep {
			list = append(list, 16, 17, 22, 2048, 4095)
		}
		for _, a := range list {
			for _, g := range []impl.Flag{rests(bound), rests(impl.BdKeep), flagOf(bound, 8, 16), {Bound: impl.BdKeep}} {
				checkConvert(t, rests(bound), g, a, -1)
			}
		}
		checkConvert(t, flagOf(bound, 6), flagOf(bound, 6), 6, -1)
		checkConvert(t, doors(bound), doors(bound), 74, -1)
	}
}

func TestConvertValueToAClassWithoutNames(t *testing.T) {
	for _, bound := range allBounds {
		for _, g := range []impl.Flag{{Bound: bound}, {Defs: []impl.Def{}, Bound: bound}, flagOf(bound, 0), flagOf(bound, 4095)} {
			checkConvert(t, rests(bound), g, 0, 0)
			checkConvert(t, rests(bound), g, 2, -1)
			checkConvert(t, g, rests(bound), 0, 0)
		}
	}
}
