package tests

import (
	"math"
	"slices"
	"testing"

	"loop.example/namedflags/impl"
)

func TestConstantsOfChapter2(t *testing.T) {
	if impl.MaxChanges != 30 || impl.ChAdd != 0 || impl.ChDrop != 1 || impl.ChTurn != 2 {
		t.Error("a constant has another value")
	}
}

// enumCase is a result that is told as an enumeration and whether there is one.
type enumCase struct {
	what string
	got  func() (impl.Enum, bool)
	want impl.Enum
}

// checkFits checks results that are there.
func checkFits(t *testing.T, list []enumCase) {
	t.Helper()
	for _, k := range list {
		if e, ok := k.got(); !ok || !sameEnum(e, k.want) {
			t.Errorf("%s = %v, %v", k.what, e, ok)
		}
	}
}

// checkNone checks that a result is the zero value and false.
func checkNone(t *testing.T, what string, e impl.Enum, ok bool) {
	t.Helper()
	if ok || e.Defs != nil {
		t.Errorf("%s = %v, %v", what, e, ok)
	}
}

// oddDefs are definitions that fit into no enumeration.
func oddDefs() []impl.Def {
	list := []impl.Def{def("x", 1001), def("x", -1001), def("x", math.MaxInt), def("x", math.MinInt)}
	for _, s := range oddNames {
		list = append(list, def(s, 1))
	}
	return list
}

func TestAddDef(t *testing.T) {
	add := func(e impl.Enum, d impl.Def) func() (impl.Enum, bool) {
		return func() (impl.Enum, bool) { return impl.AddDef(e, d) }
	}
	checkFits(t, []enumCase{
		{"AddDef to none", add(impl.Enum{}, def("a", 0)), defs(def("a", 0))},
		{"AddDef to an empty slice", add(defs([]impl.Def{}...), def("abcdef", -1000)), defs(def("abcdef", -1000))},
		{"AddDef of another name", add(enumOf(3, 1), def("x", 3)), defs(def("a", 3), def("b", 1), def("x", 3))},
		{"AddDef of the greatest value", add(enumOf(3), def("x", 1000)), defs(def("a", 3), def("x", 1000))},
		{"AddDef of the last name that there can be", add(enumOf(1, 2, 3, 4, 5, 6, 7, 8, 9, 10, 11), def("l", 12)), fullEnum()},
	})
	list := append(oddDefs(), def("red", 3), def("red", 4), def("rot", 3), def("bleu", 0))
	for _, d := range list {
		e, ok := impl.AddDef(colours(), d)
		checkNone(t, "AddDef of one that does not fit", e, ok)
	}
	e, ok := impl.AddDef(fullEnum(), def("m", 13))
	checkNone(t, "AddDef to a full enumeration", e, ok)
	for _, d := range oddDefs() {
		e, ok := impl.AddDef(impl.Enum{}, d)
		checkNone(t, "AddDef to none of one that does not fit", e, ok)
	}
}

func TestDropDef(t *testing.T) {
	drop := func(e impl.Enum, s string) func() (impl.Enum, bool) {
		return func() (impl.Enum, bool) { return impl.DropDef(e, s) }
	}
	checkFits(t, []enumCase{
		{"DropDef of the only name", drop(enumOf(1), "a"), impl.Enum{}},
		{"DropDef of the first name", drop(enumOf(1, 2, 1), "a"), defs(def("b", 2), def("c", 1))},
		{"DropDef of one between", drop(enumOf(1, 2, 1), "b"), defs(def("a", 1), def("c", 1))},
		{"DropDef of the last name", drop(enumOf(1, 2, 1), "c"), enumOf(1, 2)},
		{"DropDef in a full enumeration", drop(fullEnum(), "l"), enumOf(1, 2, 3, 4, 5, 6, 7, 8, 9, 10, 11)},
	})
	for _, s := range append(oddNames, "x", "re", "reds", "Red") {
		e, ok := impl.DropDef(colours(), s)
		checkNone(t, "DropDef of no name", e, ok)
		e, ok = impl.DropDef(impl.Enum{}, s)
		checkNone(t, "DropDef from none", e, ok)
	}
}

func TestOtherNamesTakeTheMembersPlace(t *testing.T) {
	dropped, _ := impl.DropDef(colours(), "red")
	turned, _ := impl.ApplyChanges(colours(), []impl.Change{turning("red", 3, 5)})
	for _, e := range []impl.Enum{dropped, turned} {
		if s, ok := impl.NameOf(e, 3); !ok || s != "rot" || !slices.Equal(impl.OtherNames(e, "rot"), []string{"rouge"}) {
			t.Errorf("%v: NameOf = %q, %v", e, s, ok)
		}
		if !impl.ReadsOld(colours(), e) {
			t.Errorf("ReadsOld(%v) = false", e)
		}
	}
	if impl.ReadsOld(turned, colours()) || impl.ReadsOld(dropped, colours()) {
		t.Error("ReadsOld with a member that the first enumeration does not have so")
	}
	if s, _ := impl.NameOf(turned, 5); s != "red" {
		t.Errorf("NameOf the value that red has now = %q", s)
	}
	last, _ := impl.ApplyChanges(colours(), []impl.Change{turning("off", 0, 3)})
	if s, ok := impl.NameOf(last, 0); ok || impl.ReadsOld(colours(), last) {
		t.Errorf("NameOf the value that off had = %q, %v", s, ok)
	}
	// A name that is turned ahead of the member of its new value is its member now.
	first, _ := impl.ApplyChanges(colours(), []impl.Change{turning("red", 3, -2)})
	if s, _ := impl.NameOf(first, -2); s != "red" || impl.ReadsOld(colours(), first) {
		t.Errorf("NameOf the new value of red = %q", s)
	}
}

func TestRenameDef(t *testing.T) {
	rename := func(e impl.Enum, s, to string) func() (impl.Enum, bool) {
		return func() (impl.Enum, bool) { return impl.RenameDef(e, s, to) }
	}
	checkFits(t, []enumCase{
		{"RenameDef of the only name", rename(enumOf(-1000), "a", "abcdef"), defs(def("abcdef", -1000))},
		{"RenameDef of the first name", rename(enumOf(1, 2, 1), "a", "z"), defs(def("z", 1), def("b", 2), def("c", 1))},
		{"RenameDef of one between", rename(enumOf(1, 2, 1), "b", "z"), defs(def("a", 1), def("z", 2), def("c", 1))},
		{"RenameDef of the last name", rename(enumOf(1, 2, 1), "c", "z"), defs(def("a", 1), def("b", 2), def("z", 1))},
		{"RenameDef to itself", rename(colours(), "rot", "rot"), colours()},
		{"RenameDef in a full enumeration", rename(fullEnum(), "a", "a"), fullEnum()},
	})
	for _, to := range append(oddNames, "rot", "blue", "off", "bleu") {
		e, ok := impl.RenameDef(colours(), "red", to)
		checkNone(t, "RenameDef to what is no name, or is there", e, ok)
	}
	for _, s := range append(oddNames, "x", "re", "reds") {
		e, ok := impl.RenameDef(colours(), s, "y")
		checkNone(t, "RenameDef of no name", e, ok)
		e, ok = impl.RenameDef(colours(), s, s)
		checkNone(t, "RenameDef of no name to itself", e, ok)
		e, ok = impl.RenameDef(impl.Enum{}, s, "y")
		checkNone(t, "RenameDef in none", e, ok)
	}
}

func TestMergeEnums(t *testing.T) {
	merge := func(a, b impl.Enum) func() (impl.Enum, bool) {
		return func() (impl.Enum, bool) { return impl.MergeEnums(a, b) }
	}
	low, high := defs(fullEnum().Defs[:7]...), defs(fullEnum().Defs[5:]...)
	checkFits(t, []enumCase{
		{"MergeEnums of none", merge(impl.Enum{}, impl.Enum{}), impl.Enum{}},
		{"MergeEnums with none", merge(colours(), impl.Enum{}), colours()},
		{"MergeEnums of none with some", merge(impl.Enum{}, colours()), colours()},
		{"MergeEnums with itself", merge(fullEnum(), fullEnum()), fullEnum()},
		{"MergeEnums up to MaxItems", merge(low, high), fullEnum()},
		{"MergeEnums in order", merge(defs(def("b", 2), def("a", 1)), defs(def("z", 1), def("a", 1), def("c", 2), def("b", 2), def("y", -3))),
			defs(def("b", 2), def("a", 1), def("z", 1), def("c", 2), def("y", -3))},
	})
	for _, k := range [][2]impl.Enum{
		{enumOf(1), enumOf(2)},
		{enumOf(1, 2), enumOf(1, 1)},
		{enumOf(1, 2, 3), defs(def("x", 1), def("c", 0))},
		{enumOf(0), enumOf(-1000)},
		{fullEnum(), defs(def("m", 1))},
		{defs(fullEnum().Defs[:6]...), defs(append(slices.Clone(fullEnum().Defs[6:]), def("m", 1))...)},
	} {
		e, ok := impl.MergeEnums(k[0], k[1])
		checkNone(t, "MergeEnums of what does not fit", e, ok)
		e, ok = impl.MergeEnums(k[1], k[0])
		checkNone(t, "MergeEnums of what does not fit, the other way round", e, ok)
	}
}

func TestDiffEnums(t *testing.T) {
	for _, k := range []struct {
		a, b impl.Enum
		want []impl.Change
	}{
		{impl.Enum{}, impl.Enum{}, nil},
		{colours(), colours(), nil},
		{enumOf(1, 2), defs(def("b", 2), def("a", 1)), nil},
		{impl.Enum{}, enumOf(3, 0, 3), []impl.Change{adding("a", 3), adding("b", 0), adding("c", 3)}},
		{enumOf(3, 0, 3), impl.Enum{}, []impl.Change{dropping("a", 3), dropping("b", 0), dropping("c", 3)}},
		{enumOf(1, 2), enumOf(2, 1), []impl.Change{turning("a", 1, 2), turning("b", 2, 1)}},
		{enumOf(0), enumOf(5), []impl.Change{turning("a", 0, 5)}},
		{enumOf(-1000), enumOf(0), []impl.Change{turning("a", -1000, 0)}},
		{defs(def("c", 1), def("z", 2), def("b", 3), def("y", 4), def("a", 5)),
			defs(def("x", 9), def("a", 6), def("b", 3), def("w", 0), def("c", 7)),
			[]impl.Change{dropping("z", 2), dropping("y", 4), turning("c", 1, 7), turning("a", 5, 6), adding("x", 9), adding("w", 0)}},
	} {
		if list := impl.DiffEnums(k.a, k.b); !slices.Equal(list, k.want) {
			t.Errorf("DiffEnums(%v, %v) = %v", k.a, k.b, list)
		}
	}
	// No two enumerations have more changes between them than these.
	other := impl.Enum{}
	for _, d := range fullEnum().Defs {
		other.Defs = append(other.Defs, def("z"+d.Name, d.Value))
	}
	if e, ok := impl.ApplyChanges(fullEnum(), impl.DiffEnums(fullEnum(), other)); !ok || !sameEnum(e, other) {
		t.Errorf("ApplyChanges of 24 changes = %v, %v", e, ok)
	}
}

func TestApplyChanges(t *testing.T) {
	apply := func(e impl.Enum, list ...impl.Change) func() (impl.Enum, bool) {
		return func() (impl.Enum, bool) { return impl.ApplyChanges(e, list) }
	}
	checkFits(t, []enumCase{
		{"ApplyChanges of none", apply(colours()), colours()},
		{"ApplyChanges of none to none", apply(impl.Enum{}), impl.Enum{}},
		{"ChAdd to none", apply(impl.Enum{}, adding("a", 0)), enumOf(0)},
		{"ChAdd", apply(enumOf(4, 1), adding("x", 4), adding("w", -1000)), defs(def("a", 4), def("b", 1), def("x", 4), def("w", -1000))},
		{"ChDrop", apply(enumOf(4, 0, 1), dropping("b", 0)), defs(def("a", 4), def("c", 1))},
		{"ChDrop of all", apply(enumOf(4, 1), dropping("b", 1), dropping("a", 4)), impl.Enum{}},
		{"ChTurn", apply(enumOf(4, 1, 7), turning("b", 1, 1000)), enumOf(4, 1000, 7)},
		{"ChTurn to 0", apply(enumOf(4, 1), turning("a", 4, 0)), enumOf(0, 1)},
		{"ChTurn to the same value", apply(enumOf(4, 1), turning("a", 4, 4)), enumOf(4, 1)},
		{"ChTurn twice", apply(enumOf(4, 1), turning("a", 4, 1), turning("a", 1, -5)), enumOf(-5, 1)},
		{"ChDrop and ChAdd", apply(enumOf(4, 1), dropping("a", 4), adding("a", 4)), defs(def("b", 1), def("a", 4))},
		{"ChAdd and ChDrop", apply(enumOf(4, 1), adding("c", 4), dropping("c", 4)), enumOf(4, 1)},
		{"ChDrop and ChAdd at MaxItems", apply(fullEnum(), dropping("l", 12), adding("l", 12)), fullEnum()},
	})
}

// changesThatDoNotFit are changes that do not fit enumOf(4, 0, 4), each in one way.
func changesThatDoNotFit() map[string][]impl.Change {
	ways := map[string][]impl.Change{
		"ChAdd of a name that is there":  {adding("a", 4), adding("a", 5), adding("b", 0)},
		"ChAdd with an Old":              {{Kind: impl.ChAdd, Name: "x", Old: 1, New: 1}, {Kind: impl.ChAdd, Name: "x", Old: math.MinInt}},
		"ChDrop of a name that is not":   {dropping("x", 4), dropping("x", 0), dropping("", 0), dropping("A", 4)},
		"ChDrop with another Old":        {dropping("a", 0), dropping("a", -4), dropping("b", 4), dropping("c", 5)},
		"ChDrop with a New":              {{Kind: impl.ChDrop, Name: "a", Old: 4, New: 4}, {Kind: impl.ChDrop, Name: "b", New: -1}},
		"ChTurn of a name that is not":   {turning("x", 4, 5), turning("x", 0, 5), turning("", 0, 0), turning("x", 0, 0)},
		"ChTurn with another Old":        {turning("a", 5, 6), turning("a", 0, 6), turning("b", 4, 0), turning("b", 1, 1)},
		"ChTurn beyond the values":       {turning("a", 4, 1001), turning("b", 0, -1001), turning("c", 4, math.MinInt)},
		"a kind that there is not":       {{Kind: 3, Name: "a", Old: 4}, {Kind: -1, Name: "a", Old: 4}, {Kind: 3, Name: "x"}, {Kind: -1, Name: "x"}, {Kind: math.MaxInt, Name: "a", Old: 4, New: 5}, {Kind: math.MinInt}},
		"names that are of another kind": {{Kind: impl.ChAdd, Name: "a", Old: 4, New: 5}, {Kind: impl.ChDrop, Name: "x", New: 5}},
	}
	for _, d := range oddDefs() {
		ways["ChAdd of no definition"] = append(ways["ChAdd of no definition"], adding(d.Name, d.Value))
	}
	return ways
}

func TestChangesThatDoNotFit(t *testing.T) {
	three := enumOf(4, 0, 4)
	fits := turning("a", 4, 4)
	for way, list := range changesThatDoNotFit() {
		for _, c := range list {
			for _, changes := range [][]impl.Change{{c}, {fits, c}, {c, fits}, {fits, c, fits}} {
				e, ok := impl.ApplyChanges(three, changes)
				checkNone(t, way, e, ok)
			}
		}
	}
	for _, c := range []impl.Change{dropping("a", 0), turning("a", 0, 0), turning("", 0, 1), {Kind: 3}, adding("", 0)} {
		e, ok := impl.ApplyChanges(impl.Enum{}, []impl.Change{c})
		checkNone(t, "a change of none", e, ok)
	}
}

func TestEnumerationsBetweenChangesAreValid(t *testing.T) {
	for _, list := range [][]impl.Change{
		{adding("m", 1), dropping("a", 1)},
		{turning("a", 1, 1001), turning("a", 1001, 1)},
		{turning("a", 1, -1001), dropping("a", -1001)},
		{dropping("a", 1), adding("A", 1), dropping("A", 1)},
		{dropping("a", 1), adding("m", 1001), turning("m", 1001, 1)},
		{dropping("a", 1), adding("b", 2)},
		{dropping("a", 1), dropping("a", 1)},
		{dropping("a", 1), turning("a", 1, 2)},
	} {
		e, ok := impl.ApplyChanges(fullEnum(), list)
		checkNone(t, "changes through what is not valid", e, ok)
	}
}

func TestMaxChanges(t *testing.T) {
	var list []impl.Change
	for range impl.MaxChanges / 2 {
		list = append(list, adding("z", 7), dropping("z", 7))
	}
	if e, ok := impl.ApplyChanges(colours(), list); !ok || !sameEnum(e, colours()) {
		t.Errorf("ApplyChanges of 30 changes = %v, %v", e, ok)
	}
	e, ok := impl.ApplyChanges(colours(), append(slices.Clone(list), adding("z", 7)))
	checkNone(t, "ApplyChanges of 31 changes", e, ok)
	e, ok = impl.ApplyChanges(colours(), append(slices.Clone(list), list...))
	checkNone(t, "ApplyChanges of 60 changes", e, ok)
	e, ok = impl.ApplyChanges(colours(), slices.Repeat([]impl.Change{turning("red", 3, 3)}, 31))
	checkNone(t, "ApplyChanges of 31 changes that change nothing", e, ok)
}

func TestTurnChanges(t *testing.T) {
	for _, k := range []struct{ list, want []impl.Change }{
		{nil, nil},
		{[]impl.Change{}, nil},
		{[]impl.Change{adding("a", 4)}, []impl.Change{dropping("a", 4)}},
		{[]impl.Change{dropping("a", -4)}, []impl.Change{adding("a", -4)}},
		{[]impl.Change{turning("a", 1, 2)}, []impl.Change{turning("a", 2, 1)}},
		{[]impl.Change{dropping("a", 1), turning("b", 2, 3), adding("c", 4)}, []impl.Change{dropping("c", 4), turning("b", 3, 2), adding("a", 1)}},
		{[]impl.Change{{Kind: impl.ChAdd, Name: "", Old: 1, New: 2}, {Kind: impl.ChDrop, Name: "A b", Old: 3, New: 4}},
			[]impl.Change{{Kind: impl.ChAdd, Name: "A b", Old: 4, New: 3}, {Kind: impl.ChDrop, Name: "", Old: 2, New: 1}}},
		{[]impl.Change{{Kind: 3, Name: "a", Old: 1, New: 2}, {Kind: -1, Name: "\xff", Old: math.MinInt, New: math.MaxInt}},
			[]impl.Change{{Kind: -1, Name: "\xff", Old: math.MaxInt, New: math.MinInt}, {Kind: 3, Name: "a", Old: 2, New: 1}}},
	} {
		if list := impl.TurnChanges(k.list); !slices.Equal(list, k.want) {
			t.Errorf("TurnChanges(%v) = %v", k.list, list)
		}
	}
	for _, count := range []int{impl.MaxChanges, impl.MaxChanges + 1, 1000} {
		var list, want []impl.Change
		for i := range count {
			list = append(list, adding("a", i))
			want = append(want, dropping("a", count-1-i))
		}
		if turned := impl.TurnChanges(list); !slices.Equal(turned, want) {
			t.Errorf("TurnChanges of %d changes = %v", count, turned)
		}
	}
}

func TestSameMeaning(t *testing.T) {
	for _, k := range []struct {
		a, b impl.Enum
		want bool
	}{
		{impl.Enum{}, impl.Enum{}, true},
		{impl.Enum{}, defs([]impl.Def{}...), true},
		{enumOf(1, 2, 1), defs(def("c", 1), def("b", 2), def("a", 1)), true},
		{fullEnum(), fullEnum(), true},
		{enumOf(1), impl.Enum{}, false},
		{enumOf(1, 2), enumOf(1), false},
		{enumOf(1, 2), enumOf(2, 1), false},
		{enumOf(1, 2), enumOf(1, -2), false},
		{enumOf(1, 2), defs(def("a", 1), def("c", 2)), false},
		{enumOf(1, 1), defs(def("a", 1), def("c", 1)), false},
		{enumOf(0), defs(def("b", 0)), false},
	} {
		if impl.SameMeaning(k.a, k.b) != k.want || impl.SameMeaning(k.b, k.a) != k.want {
			t.Errorf("SameMeaning(%v, %v) = %v", k.a, k.b, !k.want)
		}
	}
}

func TestReadsOld(t *testing.T) {
	for _, k := range []struct {
		a, b impl.Enum
		want bool
	}{
		{impl.Enum{}, impl.Enum{}, true},
		{impl.Enum{}, fullEnum(), true},
		{fullEnum(), impl.Enum{}, false},
		{enumOf(0), impl.Enum{}, false},
		{enumOf(1, 2), enumOf(1, 2, 3), true},
		{enumOf(1, 2, 3), enumOf(1, 2), false},
		{enumOf(1, 2), defs(def("b", 2), def("a", 1)), true},
		{enumOf(1, 2), enumOf(2, 1), false},
		{enumOf(1, 1), defs(def("b", 1)), true},
		{enumOf(1, 1), defs(def("b", 1), def("a", 1)), true},
		{enumOf(1, 1), defs(def("a", 1), def("b", 7)), true},
		{enumOf(1, 1), defs(def("b", 1), def("a", 7)), true},
		{enumOf(1), defs(def("b", 1), def("a", 1)), false},
		{enumOf(1), defs(def("a", 1), def("b", 1)), true},
		{enumOf(1, 2), defs(def("b", 1), def("a", 2)), false},
		{enumOf(1, 2), defs(def("a", 1), def("c", 2)), false},
		{enumOf(1, 2), enumOf(1, 1, 2), false},
		{enumOf(1, 2), defs(def("b", 2), def("c", 2), def("a", 1)), true},
	} {
		if impl.ReadsOld(k.a, k.b) != k.want {
			t.Errorf("ReadsOld(%v, %v) = %v", k.a, k.b, !k.want)
		}
	}
}

func TestSortEnum(t *testing.T) {
	for _, k := range []struct{ e, want impl.Enum }{
		{impl.Enum{}, impl.Enum{}},
		{enumOf(7), enumOf(7)},
		{fullEnum(), fullEnum()},
		{enumOf(1000, 0, -1000), defs(def("c", -1000), def("b", 0), def("a", 1000))},
		{enumOf(1, 1, 1), enumOf(1, 1, 1)},
		{defs(def("z", 1), def("a", 1), def("m", 0), def("b", 1)), defs(def("m", 0), def("z", 1), def("a", 1), def("b", 1))},
		{colours(), defs(def("blue", -2), def("bleu", -2), def("off", 0), def("red", 3), def("rot", 3), def("rouge", 3))},
	} {
		if e := impl.SortEnum(k.e); !sameEnum(e, k.want) {
			t.Errorf("SortEnum(%v) = %v", k.e, e)
		}
	}
}

func TestInvalidEnumsInChapter2(t *testing.T) {
	good := []impl.Enum{{}, colours(), enumOf(1), enumOf(1, 2), enumOf(1, 2, 4)}
	for _, bad := range invalidEnums() {
		for _, s := range append(namesOf(bad), "x", "") {
			e, ok := impl.AddDef(bad, def(s, 1))
			checkNone(t, "AddDef to an invalid enumeration", e, ok)
			e, ok = impl.DropDef(bad, s)
			checkNone(t, "DropDef from an invalid enumeration", e, ok)
			e, ok = impl.RenameDef(bad, s, "y")
			checkNone(t, "RenameDef in an invalid enumeration", e, ok)
			e, ok = impl.RenameDef(bad, s, s)
			checkNone(t, "RenameDef to itself in an invalid enumeration", e, ok)
		}
		for _, d := range bad.Defs {
			e, ok := impl.ApplyChanges(bad, []impl.Change{dropping(d.Name, d.Value)})
			checkNone(t, "ApplyChanges to an invalid enumeration", e, ok)
			e, ok = impl.ApplyChanges(bad, []impl.Change{turning(d.Name, d.Value, 0)})
			checkNone(t, "ApplyChanges to an invalid enumeration", e, ok)
		}
		e, ok := impl.ApplyChanges(bad, nil)
		checkNone(t, "ApplyChanges of none to an invalid enumeration", e, ok)
		if e := impl.SortEnum(bad); e.Defs != nil {
			t.Errorf("SortEnum(%v) = %v", bad, e)
		}
		for _, k := range append(good, bad) {
			checkInvalidPair(t, bad, k)
			checkInvalidPair(t, k, bad)
		}
	}
}

// checkInvalidPair checks the results for two enumerations, one of which is not valid.
func checkInvalidPair(t *testing.T, a, b impl.Enum) {
	t.Helper()
	e, ok := impl.MergeEnums(a, b)
	checkNone(t, "MergeEnums with an invalid enumeration", e, ok)
	if list := impl.DiffEnums(a, b); list != nil || impl.SameMeaning(a, b) || impl.ReadsOld(a, b) {
		t.Errorf("%v and %v: DiffEnums = %v, SameMeaning = %v, ReadsOld = %v", a, b, list, impl.SameMeaning(a, b), impl.ReadsOld(a, b))
	}
}
