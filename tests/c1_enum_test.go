package tests

import (
	"math"
	"slices"
	"strings"
	"testing"

	"loop.example/namedflags/impl"
)

func TestValidName(t *testing.T) {
	for _, s := range []string{"a", "z", "az", "mmm", "abcdef", "zzzzzz"} {
		if !impl.ValidName(s) {
			t.Errorf("ValidName(%q) = false", s)
		}
	}
	for _, s := range append(oddNames, strings.Repeat("a", impl.MaxName+1), strings.Repeat("a", 1000)) {
		if impl.ValidName(s) {
			t.Errorf("ValidName(%q) = true", s)
		}
	}
	for b := range 256 {
		s := string([]byte{'m', byte(b)})
		if want := b >= 'a' && b <= 'z'; impl.ValidName(s) != want {
			t.Errorf("ValidName(%q) = %v", s, !want)
		}
	}
}

func TestLimitsOfChapter1(t *testing.T) {
	if impl.MaxName != 6 || impl.MaxItems != 12 || impl.MaxValue != 1000 || impl.MaxGaps != 30 {
		t.Error("a limit has another value")
	}
}

func TestValidEnum(t *testing.T) {
	valid := []impl.Enum{{}, {Defs: []impl.Def{}}, colours(), fullEnum(), enumOf(1000), enumOf(-1000, 1000), enumOf(0, 0, 0), {Defs: []impl.Def{{Name: "abcdef"}}}}
	for _, e := range valid {
		if !impl.ValidEnum(e) {
			t.Errorf("ValidEnum(%v) = false", e)
		}
	}
	for _, e := range invalidEnums() {
		if impl.ValidEnum(e) {
			t.Errorf("ValidEnum(%v) = true", e)
		}
	}
}

// auto returns an automatic item.
func auto(name string) impl.Item { return impl.Item{Name: name, Auto: true} }

// own returns an item with a value of its own.
func own(name string, value int) impl.Item { return impl.Item{Name: name, Value: value} }

// autos returns automatic items with the names a, b and so on.
func autos(count int) []impl.Item {
	var items []impl.Item
	for i := range count {
		items = append(items, auto(letters[i:i+1]))
	}
	return items
}

func TestBuildEnum(t *testing.T) {
	for _, k := range []struct {
		items []impl.Item
		want  impl.Enum
	}{
		{nil, impl.Enum{}},
		{[]impl.Item{}, impl.Enum{}},
		{[]impl.Item{auto("a")}, enumOf(1)},
		{[]impl.Item{own("a", 0)}, enumOf(0)},
		{[]impl.Item{auto("a"), auto("b"), auto("c")}, enumOf(1, 2, 3)},
		{[]impl.Item{own("a", 5), own("b", 2), auto("c"), auto("d")}, enumOf(5, 2, 6, 7)},
		{[]impl.Item{own("a", -5), auto("b")}, enumOf(-5, -4)},
		{[]impl.Item{own("a", -1), auto("b")}, enumOf(-1, 0)},
		{[]impl.Item{own("a", -1000), own("b", -7), auto("c"), own("d", -1000), auto("e")}, enumOf(-1000, -7, -6, -1000, -5)},
		{[]impl.Item{own("a", 0), auto("b"), own("c", 1), auto("d")}, enumOf(0, 1, 1, 2)},
		{[]impl.Item{own("a", 999), auto("b")}, enumOf(999, 1000)},
		{[]impl.Item{own("abcdef", 1000)}, impl.Enum{Defs: []impl.Def{{Name: "abcdef", Value: 1000}}}},
		{[]impl.Item{own("a", -1000)}, enumOf(-1000)},
		{autos(impl.MaxItems), fullEnum()},
	} {
		if e, ok := impl.BuildEnum(k.items); !ok || !sameEnum(e, k.want) {
			t.Errorf("BuildEnum(%v) = %v, %v", k.items, e, ok)
		}
	}
}

func TestBuildEnumOfInvalidItems(t *testing.T) {
	lists := [][]impl.Item{
		{{Name: "a", Auto: true, Value: 1}},
		{{Name: "a", Auto: true, Value: -1}},
		{own("a", 4), {Name: "b", Auto: true, Value: 5}},
		{own("a", 4), {Name: "b", Auto: true, Value: math.MinInt}},
		{own("a", 1000), auto("b")},
		{own("a", 1000), own("b", 3), auto("c")},
		{own("a", 1001)},
		{own("a", -1001)},
		{own("a", -1001), auto("b")},
		{own("a", math.MaxInt), auto("b"), auto("c")},
		{own("a", math.MinInt), auto("b")},
		{auto("a"), auto("a")},
		{auto("a"), own("b", 3), own("a", 1)},
		autos(impl.MaxItems + 1),
		make([]impl.Item, 1000),
	}
	for _, s := range oddNames {
		lists = append(lists, []impl.Item{auto(s)}, []impl.Item{auto("a"), own(s, 7)})
	}
	for _, e := range invalidEnums() {
		lists = append(lists, itemsOf(e))
	}
	for _, items := range lists {
		if e, ok := impl.BuildEnum(items); ok || len(e.Defs) != 0 {
			t.Errorf("BuildEnum(%v) = %v, %v", items, e, ok)
		}
	}
}

func TestValuesAndNames(t *testing.T) {
	for name, want := range map[string]int{"red": 3, "rot": 3, "rouge": 3, "blue": -2, "bleu": -2, "off": 0} {
		if n, ok := impl.ValueOf(colours(), name); !ok || n != want {
			t.Errorf("ValueOf(%q) = %d, %v", name, n, ok)
		}
	}
	for value, want := range map[int]string{3: "red", -2: "blue", 0: "off"} {
		if s, ok := impl.NameOf(colours(), value); !ok || s != want {
			t.Errorf("NameOf(%d) = %q, %v", value, s, ok)
		}
	}
	for _, n := range []int{-3, -1, 1, 2, 4, 1001, math.MinInt, math.MaxInt} {
		if s, ok := impl.NameOf(colours(), n); ok || s != "" {
			t.Errorf("NameOf(%d) = %q, %v", n, s, ok)
		}
	}
	if s, ok := impl.NameOf(enumOf(1, -1000, 1000), -1000); !ok || s != "b" {
		t.Errorf("NameOf the least value = %q, %v", s, ok)
	}
}

func TestMembersAndOtherNames(t *testing.T) {
	c := colours()
	if list := impl.MembersOf(c); !slices.Equal(list, []string{"red", "blue", "off"}) {
		t.Errorf("MembersOf = %q", list)
	}
	reds, blues := []string{"rot", "rouge"}, []string{"bleu"}
	for name, want := range map[string][]string{"red": reds, "rot": reds, "rouge": reds, "blue": blues, "bleu": blues, "off": nil} {
		if list := impl.OtherNames(c, name); !slices.Equal(list, want) {
			t.Errorf("OtherNames(%q) = %q", name, list)
		}
	}
	if list := impl.MembersOf(enumOf(-1, -1, -1)); !slices.Equal(list, []string{"a"}) {
		t.Errorf("MembersOf one value = %q", list)
	}
	for _, k := range []struct {
		e    impl.Enum
		want bool
	}{{c, false}, {fullEnum(), true}, {impl.Enum{}, true}, {enumOf(-1000, 1000), true}, {enumOf(1, 2, 1), false}, {enumOf(-1, -1), false}} {
		if impl.IsUnique(k.e) != k.want {
			t.Errorf("IsUnique(%v) = %v", k.e, !k.want)
		}
	}
}

func TestGapsOf(t *testing.T) {
	span := func(from, to int) []int {
		var list []int
		for n := from; n <= to; n++ {
			list = append(list, n)
		}
		return list
	}
	for _, k := range []struct {
		e    impl.Enum
		want []int
	}{
		{impl.Enum{}, nil},
		{enumOf(7), nil},
		{enumOf(-1000, -1000), nil},
		{fullEnum(), nil},
		{colours(), []int{-1, 1, 2}},
		{enumOf(3, -2, 3), []int{-1, 0, 1, 2}},
		{enumOf(0, 31), span(1, 30)},
		{enumOf(0, 32), nil},
		{enumOf(-31, 0), span(-30, -1)},
		{enumOf(33, 20, 2, 20), append(span(3, 19), span(21, 32)...)},
		{enumOf(33, 20, 1, 20), append(span(2, 19), span(21, 32)...)},
		{enumOf(33, 20, 0, 20), nil},
		{enumOf(-1000, 1000), nil},
		{enumOf(1000, 969), span(970, 999)},
		{enumOf(1000, 968), nil},
	} {
		if list := impl.GapsOf(k.e); !slices.Equal(list, k.want) {
			t.Errorf("GapsOf(%v) = %v", k.e, list)
		}
	}
}

func TestRanksAndNextMembers(t *testing.T) {
	for _, k := range []struct {
		name string
		rank int
		next string
	}{{"red", 0, "blue"}, {"rot", 0, "blue"}, {"rouge", 0, "blue"}, {"blue", 1, "off"}, {"bleu", 1, "off"}, {"off", 2, "red"}} {
		if n := impl.RankOf(colours(), k.name); n != k.rank {
			t.Errorf("RankOf(%q) = %d", k.name, n)
		}
		if s, ok := impl.NextMember(colours(), k.name); !ok || s != k.next {
			t.Errorf("NextMember(%q) = %q, %v", k.name, s, ok)
		}
	}
	one := enumOf(-7, -7)
	for _, name := range []string{"a", "b"} {
		if s, ok := impl.NextMember(one, name); !ok || s != "a" || impl.RankOf(one, name) != 0 {
			t.Errorf("NextMember(%q) of one member = %q, %v", name, s, ok)
		}
	}
}

// checkNoName checks the results for a text that is no name of an enumeration, or for one that is not valid.
func checkNoName(t *testing.T, e impl.Enum, s string) {
	t.Helper()
	if n, ok := impl.ValueOf(e, s); ok || n != 0 {
		t.Errorf("ValueOf(%v, %q) = %d, %v", e, s, n, ok)
	}
	if list := impl.OtherNames(e, s); len(list) != 0 {
		t.Errorf("OtherNames(%v, %q) = %q", e, s, list)
	}
	if n := impl.RankOf(e, s); n != -1 {
		t.Errorf("RankOf(%v, %q) = %d", e, s, n)
	}
	if next, ok := impl.NextMember(e, s); ok || next != "" {
		t.Errorf("NextMember(%v, %q) = %q, %v", e, s, next, ok)
	}
}

func TestNamesThatAreNone(t *testing.T) {
	for _, e := range []impl.Enum{{}, {Defs: []impl.Def{}}, colours(), fullEnum(), enumOf(0)} {
		for _, s := range append(oddNames, "x", "re", "reds", "Red") {
			checkNoName(t, e, s)
		}
	}
}

func TestNoNamesAtAll(t *testing.T) {
	for _, e := range []impl.Enum{{}, {Defs: []impl.Def{}}} {
		if !impl.ValidEnum(e) || !impl.IsUnique(e) || len(impl.MembersOf(e)) != 0 || len(impl.GapsOf(e)) != 0 {
			t.Errorf("no names: %v, %v, %q, %v", impl.ValidEnum(e), impl.IsUnique(e), impl.MembersOf(e), impl.GapsOf(e))
		}
		for _, n := range []int{-1, 0, 1} {
			if s, ok := impl.NameOf(e, n); ok || s != "" {
				t.Errorf("NameOf(%d) of no names = %q, %v", n, s, ok)
			}
		}
	}
}

func TestInvalidEnums(t *testing.T) {
	for _, e := range invalidEnums() {
		if impl.MembersOf(e) != nil || impl.GapsOf(e) != nil || impl.IsUnique(e) {
			t.Errorf("%v: MembersOf = %q, GapsOf = %v, IsUnique = %v", e, impl.MembersOf(e), impl.GapsOf(e), impl.IsUnique(e))
		}
		for _, s := range append(namesOf(e), "a", "x", "") {
			checkNoName(t, e, s)
		}
		for _, d := range e.Defs {
			if s, ok := impl.NameOf(e, d.Value); ok || s != "" {
				t.Errorf("NameOf(%v, %d) = %q, %v", e, d.Value, s, ok)
			}
		}
	}
}
