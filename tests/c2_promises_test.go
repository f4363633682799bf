package tests

import (
	"maps"
	"slices"
	"testing"

	"loop.example/namedflags/impl"
)

func TestP13AddedNamesAreThere(t *testing.T) {
	for _, e := range validEnums() {
		for _, d := range []impl.Def{def("x", 0), def("abcdef", -1000), def("z", 1000), def("a", 1), def("m", 2)} {
			_, there := plainValue(e, d.Name)
			fits := !there && len(e.Defs) < impl.MaxItems
			added, ok := impl.AddDef(e, d)
			if ok != fits {
				t.Fatalf("AddDef(%v, %v) = %v, %v", e, d, added, ok)
			}
			if !fits {
				continue
			}
			if n, ok := impl.ValueOf(added, d.Name); !ok || n != d.Value || added.Defs[len(e.Defs)] != d {
				t.Fatalf("ValueOf(%v, %q) = %d, %v", added, d.Name, n, ok)
			}
			if back, ok := impl.DropDef(added, d.Name); !ok || !sameEnum(back, e) {
				t.Fatalf("DropDef(%v, %q) = %v, %v", added, d.Name, back, ok)
			}
		}
	}
}

func TestP14DroppedNamesAreGone(t *testing.T) {
	for _, e := range validEnums() {
		for i, d := range e.Defs {
			dropped, ok := impl.DropDef(e, d.Name)
			if !ok || len(dropped.Defs) != len(e.Defs)-1 {
				t.Fatalf("DropDef(%v, %q) = %v, %v", e, d.Name, dropped, ok)
			}
			if n, ok := impl.ValueOf(dropped, d.Name); ok || n != 0 {
				t.Fatalf("ValueOf(%v, %q) = %d, %v", dropped, d.Name, n, ok)
			}
			for j, other := range e.Defs {
				n, ok := impl.ValueOf(dropped, other.Name)
				if j != i && (!ok || n != other.Value) {
					t.Fatalf("ValueOf(%v, %q) = %d, %v", dropped, other.Name, n, ok)
				}
			}
		}
	}
}

func TestP15RenamedBackIsAsBefore(t *testing.T) {
	for _, e := range validEnums() {
		for i, d := range e.Defs {
			renamed, ok := impl.RenameDef(e, d.Name, "other")
			if !ok || renamed.Defs[i] != def("other", d.Value) {
				t.Fatalf("RenameDef(%v, %q) = %v, %v", e, d.Name, renamed, ok)
			}
			if n, ok := impl.ValueOf(renamed, "other"); !ok || n != d.Value {
				t.Fatalf("ValueOf(%v, other) = %d, %v", renamed, n, ok)
			}
			if back, ok := impl.RenameDef(renamed, "other", d.Name); !ok || !sameEnum(back, e) {
				t.Fatalf("RenameDef(%v) back = %v, %v", renamed, back, ok)
			}
			if same, ok := impl.RenameDef(e, d.Name, d.Name); !ok || !sameEnum(same, e) {
				t.Fatalf("RenameDef(%v, %q) to itself = %v, %v", e, d.Name, same, ok)
			}
			for j, other := range e.Defs {
				if e, ok := impl.RenameDef(e, d.Name, other.Name); j != i && ok {
					t.Fatalf("RenameDef from %q to %q = %v, %v", d.Name, other.Name, e, ok)
				}
			}
		}
	}
}

// plainMerge returns the values of the names of both enumerations, and whether they can be merged.
func plainMerge(a, b impl.Enum) (map[string]int, bool) {
	all := plainMeaning(a)
	for _, d := range b.Defs {
		if n, there := all[d.Name]; there && n != d.Value {
			return nil, false
		}
		all[d.Name] = d.Value
	}
	return all, len(all) <= impl.MaxItems
}

func TestP16MergedEnumerationsTellBoth(t *testing.T) {
	merged := 0
	pairs(func(a, b impl.Enum) {
		want, fits := plainMerge(a, b)
		e, ok := impl.MergeEnums(a, b)
		if ok != fits || !ok && e.Defs != nil {
			t.Fatalf("MergeEnums(%v, %v) = %v, %v", a, b, e, ok)
		}
		round, roundOk := impl.MergeEnums(b, a)
		if roundOk != ok {
			t.Fatalf("MergeEnums(%v, %v) = %v, %v", b, a, round, roundOk)
		}
		if !ok {
			return
		}
		merged++
		if len(e.Defs) != len(want) || !maps.Equal(plainMeaning(e), want) || !impl.SameMeaning(e, round) {
			t.Fatalf("MergeEnums(%v, %v) = %v", a, b, e)
		}
		if !slices.Equal(e.Defs[:len(a.Defs)], a.Defs) {
			t.Fatalf("MergeEnums(%v, %v) = %v, and not the first one ahead", a, b, e)
		}
		place := -1
		for _, d := range e.Defs[len(a.Defs):] {
			at := slices.Index(b.Defs, d)
			if at <= place {
				t.Fatalf("MergeEnums(%v, %v) = %v, not in order", a, b, e)
			}
			place = at
		}
	})
	if merged < 1000 {
		t.Errorf("only %d pairs are merged", merged)
	}
}

// checkDiff checks the order of changes: those of each kind together, in the order of names.
func checkDiff(t *testing.T, a, b impl.Enum, list []impl.Change) {
	t.Helper()
	var want []impl.Change
	for _, d := range a.Defs {
		if _, there := plainValue(b, d.Name); !there {
			want = append(want, dropping(d.Name, d.Value))
		}
	}
	for _, d := range a.Defs {
		if n, there := plainValue(b, d.Name); there && n != d.Value {
			want = append(want, turning(d.Name, d.Value, n))
		}
	}
	for _, d := range b.Defs {
		if _, there := plainValue(a, d.Name); !there {
			want = append(want, adding(d.Name, d.Value))
		}
	}
	if !slices.Equal(list, want) {
		t.Fatalf("DiffEnums(%v, %v) = %v", a, b, list)
	}
}

func TestP17ChangesLeadThere(t *testing.T) {
	pairs(func(a, b impl.Enum) {
		list := impl.DiffEnums(a, b)
		checkDiff(t, a, b, list)
		e, ok := impl.ApplyChanges(a, list)
		if !ok || !impl.SameMeaning(e, b) || !maps.Equal(plainMeaning(e), plainMeaning(b)) {
			t.Fatalf("ApplyChanges(%v, %v) = %v, %v", a, list, e, ok)
		}
	})
}

func TestP18ChangesAreUndone(t *testing.T) {
	pairs(func(a, b impl.Enum) {
		list := impl.DiffEnums(a, b)
		e, _ := impl.ApplyChanges(a, list)
		back, ok := impl.ApplyChanges(e, impl.TurnChanges(list))
		if !ok || !maps.Equal(plainMeaning(back), plainMeaning(a)) {
			t.Fatalf("ApplyChanges(%v, %v) and back = %v, %v", a, list, back, ok)
		}
	})
	walks(func(e impl.Enum, list []impl.Change, want impl.Enum, fits bool) {
		if !fits {
			return
		}
		back, ok := impl.ApplyChanges(want, impl.TurnChanges(list))
		if !ok || !impl.SameMeaning(back, e) || !maps.Equal(plainMeaning(back), plainMeaning(e)) {
			t.Fatalf("ApplyChanges(%v, %v) and back = %v, %v", e, list, back, ok)
		}
	})
}

func TestP19ChangesGoOneByOne(t *testing.T) {
	fitting, others, longest := 0, 0, 0
	g := generator(7)
	walks(func(e impl.Enum, list []impl.Change, want impl.Enum, fits bool) {
		all, ok := impl.ApplyChanges(e, list)
		if ok != fits || !sameEnum(all, want) {
			t.Fatalf("ApplyChanges(%v, %v) = %v, %v", e, list, all, ok)
		}
		for _, i := range []int{0, g.below(len(list) + 1), len(list)} {
			first, okFirst := impl.ApplyChanges(e, list[:i])
			second, okSecond := impl.ApplyChanges(first, list[i:])
			if (okFirst && okSecond) != fits || fits && !sameEnum(second, want) {
				t.Fatalf("ApplyChanges(%v, %v) in two parts = %v, %v, %v", e, list, second, okFirst, okSecond)
			}
		}
		if !fits {
			others++
			return
		}
		fitting++
		longest = max(longest, len(list))
	})
	if fitting < 1000 || others < 100 || longest < impl.MaxChanges {
		t.Errorf("only %d lists that fit, %d that do not, at most %d changes", fitting, others, longest)
	}
}

func TestP20TurnedTwiceIsAsBefore(t *testing.T) {
	check := func(list []impl.Change) {
		turned := impl.TurnChanges(list)
		if len(turned) != len(list) || !slices.Equal(impl.TurnChanges(turned), list) {
			t.Fatalf("TurnChanges(%v) = %v, and again %v", list, turned, impl.TurnChanges(turned))
		}
	}
	walks(func(e impl.Enum, list []impl.Change, want impl.Enum, fits bool) { check(list) })
	g := generator(4)
	for range 500 {
		list := make([]impl.Change, g.below(50))
		for i := range list {
			list[i] = impl.Change{Kind: g.below(7) - 2, Name: oddNames[g.below(len(oddNames))], Old: g.below(5) - 2, New: g.below(5) - 2}
		}
		check(list)
	}
}

func TestP21OrderMeansNothing(t *testing.T) {
	same, others := 0, 0
	pairs(func(a, b impl.Enum) {
		want := maps.Equal(plainMeaning(a), plainMeaning(b))
		if impl.SameMeaning(a, b) != want || impl.SameMeaning(b, a) != want {
			t.Fatalf("SameMeaning(%v, %v) = %v", a, b, !want)
		}
		if want {
			same++
		} else {
			others++
		}
	})
	if same < 100 || others < 100 {
		t.Errorf("only %d pairs mean the same, %d do not", same, others)
	}
	for _, e := range validEnums() {
		if s := impl.SortEnum(e); !impl.SameMeaning(e, s) || !impl.SameMeaning(s, e) {
			t.Fatalf("SortEnum(%v) = %v means something else", e, s)
		}
	}
}

// plainReads reports whether values of one enumeration are read by another one, without its functions.
func plainReads(a, b impl.Enum) bool {
	for _, d := range a.Defs {
		i := slices.IndexFunc(b.Defs, func(other impl.Def) bool { return other.Value == d.Value })
		if i < 0 {
			return false
		}
		if n, there := plainValue(a, b.Defs[i].Name); !there || n != d.Value {
			return false
		}
	}
	return true
}

func TestP22OldValuesAreRead(t *testing.T) {
	for _, e := range validEnums() {
		if !impl.ReadsOld(e, e) || !impl.ReadsOld(e, impl.SortEnum(e)) {
			t.Fatalf("ReadsOld(%v) by itself = false", e)
		}
	}
	read, others := 0, 0
	pairs(func(a, b impl.Enum) {
		want := plainReads(a, b)
		if impl.ReadsOld(a, b) != want {
			t.Fatalf("ReadsOld(%v, %v) = %v", a, b, !want)
		}
		if !want {
			others++
			return
		}
		read++
		for _, d := range a.Defs {
			if s, ok := impl.NameOf(b, d.Value); !ok {
				t.Fatalf("%v reads %v, but NameOf %d = %q, %v", b, a, d.Value, s, ok)
			}
		}
	})
	if read < 100 || others < 100 {
		t.Errorf("only %d pairs are read, %d are not", read, others)
	}
}

func TestP23SortedEnumerationsAscend(t *testing.T) {
	list := validEnums()
	pairs(func(a, b impl.Enum) { list = append(list, a) })
	for _, e := range list {
		s := impl.SortEnum(e)
		if len(s.Defs) != len(e.Defs) {
			t.Fatalf("SortEnum(%v) = %v", e, s)
		}
		last := -impl.MaxValue - 1
		for _, name := range impl.MembersOf(s) {
			n, _ := impl.ValueOf(s, name)
			if n <= last {
				t.Fatalf("SortEnum(%v) = %v, whose members do not ascend", e, s)
			}
			last = n
			before, ok := impl.NameOf(e, n)
			if !ok || before != name || !slices.Equal(impl.OtherNames(e, name), impl.OtherNames(s, name)) {
				t.Fatalf("SortEnum(%v) = %v, with the member %q for %q", e, s, name, before)
			}
		}
		if !slices.IsSortedFunc(s.Defs, func(x, y impl.Def) int { return x.Value - y.Value }) {
			t.Fatalf("SortEnum(%v) = %v falls", e, s)
		}
	}
}
