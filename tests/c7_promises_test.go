package tests

import (
	"slices"
	"testing"

	"loop.example/namedflags/impl"
)

// bothNames returns all names of two enumerations, and one that none has.
func bothNames(a, b impl.Enum) []string {
	return append(slices.Concat(namesOf(a), namesOf(b)), "zz")
}

func TestNamesAreConvertedAsTheDocumentSays(t *testing.T) {
	pairs(func(a, b impl.Enum) {
		for _, s := range bothNames(a, b) {
			member, there := plainMember(b, s)
			value, fits := plainValue(a, s)
			if !fits || !there {
				member = ""
			}
			if name, ok := impl.ByName(a, b, s); !sameName(name, ok, member, fits && there) {
				t.Fatalf("ByName(%v, %v, %q) = %q, %v", a, b, s, name, ok)
			}
			member, there = plainFirstOf(b, value)
			if !fits || !there {
				member = ""
			}
			if name, ok := impl.ByValue(a, b, s); !sameName(name, ok, member, fits && there) {
				t.Fatalf("ByValue(%v, %v, %q) = %q, %v", a, b, s, name, ok)
			}
		}
	})
}

func TestEnumerationsAreNumberedAsTheDocumentSays(t *testing.T) {
	for _, e := range append(validEnums(), mixedEnums()...) {
		if r := impl.Renumber(e); !slices.Equal(r.Defs, plainByRanks(e, ranks(e))) {
			t.Fatalf("Renumber(%v) = %v", e, r)
		}
		if f := impl.FlagOf(e); !sameFlag(f, impl.Flag{Defs: plainByRanks(e, powers(e)), Bound: impl.BdStrict}) {
			t.Fatalf("FlagOf(%v) = %v", e, f)
		}
	}
}

func TestSetsAreAsTheDocumentSays(t *testing.T) {
	memberLists(func(e impl.Enum, list []string) {
		want, fits := plainSet(e, list)
		if n, ok := impl.SetOf(e, list); n != want || ok != fits {
			t.Fatalf("SetOf(%v, %q) = %d, %v", e, list, n, ok)
		}
		if n, ok := impl.SetOf(e, append(slices.Clone(list), "zz")); ok || n != 0 {
			t.Fatalf("SetOf(%v, %q and zz) = %d, %v", e, list, n, ok)
		}
	})
	enumSets(func(e impl.Enum, n int) {
		if names := impl.MembersIn(e, n); !slices.Equal(names, plainIn(e, n)) {
			t.Fatalf("MembersIn(%v, %d) = %q", e, n, names)
		}
		beyond := n + 1<<len(plainMembers(e))
		if names := impl.MembersIn(e, beyond); names != nil {
			t.Fatalf("MembersIn(%v, %d) = %q", e, beyond, names)
		}
	})
}

func TestValuesAreConvertedAsTheDocumentSays(t *testing.T) {
	converted, others := 0, 0
	conversions(func(f, g impl.Flag, a int) {
		want, fits := plainConvert(f, g, a)
		if n, ok := impl.ConvertValue(f, g, a); n != want || ok != fits || ok && !impl.IsValue(g, n) {
			t.Fatalf("ConvertValue(%v, %v, %d) = %d, %v", f, g, a, n, ok)
		}
		if fits && want > 0 {
			converted++
		} else {
			others++
		}
	})
	if converted < 1000 || others < 1000 {
		t.Errorf("only %d values are converted, %d are 0 or not", converted, others)
	}
}

func TestTablesAreMadeAsTheDocumentSays(t *testing.T) {
	made, others := 0, 0
	check := func(e impl.Enum, list []impl.Def) {
		want, fits := plainTable(e, list)
		if numbers, ok := impl.TableOf(e, list); ok != fits || !slices.Equal(numbers, want) || !ok && numbers != nil {
			t.Fatalf("TableOf(%v, %v) = %v, %v, want %v, %v", e, list, numbers, ok, want, fits)
		}
		if fits {
			made++
		} else {
			others++
		}
	}
	tables(check)
	brokenDefs(check)
	if made < 1000 || others < 1000 {
		t.Errorf("only %d tables are made, %d are not", made, others)
	}
}

func TestTablesAreReadAsTheDocumentSays(t *testing.T) {
	read, others := 0, 0
	rows(func(e impl.Enum, numbers []int) {
		if !plainIsTable(e, numbers) {
			others++
			checkNoRows(t, e, numbers)
			return
		}
		read++
		for _, d := range plainByRanks(e, numbers) {
			if n, ok := impl.LookUp(e, numbers, d.Name); !ok || n != d.Value {
				t.Fatalf("LookUp(%v, %v, %q) = %d, %v", e, numbers, d.Name, n, ok)
			}
		}
		checkNoNumber(t, e, numbers, "zz")
		if after, ok := impl.Revalue(e, numbers); !ok || !slices.Equal(after.Defs, plainByRanks(e, numbers)) {
			t.Fatalf("Revalue(%v, %v) = %v, %v", e, numbers, after, ok)
		}
	})
	if read < 1000 || others < 1000 {
		t.Errorf("only %d tables are read, %d are not", read, others)
	}
}

// valueOf returns ValueOf a name that an enumeration has.
func valueOf(t *testing.T, e impl.Enum, s string) int {
	t.Helper()
	n, ok := impl.ValueOf(e, s)
	if !ok {
		t.Fatalf("ValueOf(%v, %q) = %d, false", e, s, n)
	}
	return n
}

// memberOf returns NameOf the value of a name that an enumeration has.
func memberOf(t *testing.T, e impl.Enum, s string) string {
	t.Helper()
	member, ok := impl.NameOf(e, valueOf(t, e, s))
	if !ok {
		t.Fatalf("NameOf(%v) of the value of %q = %q, false", e, s, member)
	}
	return member
}

func TestP73NamesAreKept(t *testing.T) {
	kept := 0
	pairs(func(a, b impl.Enum) {
		for _, s := range bothNames(a, b) {
			_, inA := impl.ValueOf(a, s)
			_, inB := impl.ValueOf(b, s)
			member, ok := impl.ByName(a, b, s)
			if ok != (inA && inB) || !ok && member != "" {
				t.Fatalf("ByName(%v, %v, %q) = %q, %v", a, b, s, member, ok)
			}
			if !ok {
				continue
			}
			kept++
			if !slices.Contains(impl.MembersOf(b), member) || valueOf(t, b, member) != valueOf(t, b, s) {
				t.Fatalf("ByName(%v, %v, %q) = %q", a, b, s, member)
			}
		}
	})
	if kept < 1000 {
		t.Errorf("only %d names are kept", kept)
	}
}

func TestP74ValuesAreKept(t *testing.T) {
	kept, lost := 0, 0
	pairs(func(a, b impl.Enum) {
		for _, s := range namesOf(a) {
			member, ok := impl.ByValue(a, b, s)
			if _, there := impl.NameOf(b, valueOf(t, a, s)); ok != there {
				t.Fatalf("ByValue(%v, %v, %q) = %q, %v", a, b, s, member, ok)
			}
			if !ok {
				lost++
				continue
			}
			kept++
			back, ok := impl.ByValue(b, a, member)
			if !ok || back != memberOf(t, a, s) || valueOf(t, b, member) != valueOf(t, a, s) {
				t.Fatalf("ByValue(%v, %v, %q) = %q, and back %q, %v", a, b, s, member, back, ok)
			}
		}
	})
	if kept < 1000 || lost < 1000 {
		t.Errorf("only %d values are kept, %d are not", kept, lost)
	}
}

func TestP75WhatReadsOldValuesReadsAll(t *testing.T) {
	read := 0
	pairs(func(a, b impl.Enum) {
		if !impl.ReadsOld(a, b) {
			return
		}
		for _, s := range namesOf(a) {
			read++
			member, ok := impl.ByValue(a, b, s)
			if !ok || impl.RankOf(a, member) < 0 || impl.RankOf(a, member) != impl.RankOf(a, s) {
				t.Fatalf("%v is read by %v, but ByValue(%q) = %q, %v", a, b, s, member, ok)
			}
		}
	})
	if read < 1000 {
		t.Errorf("only %d names are read", read)
	}
}

func TestP76RenumberedEnumerationsHaveNoGaps(t *testing.T) {
	for _, e := range append(validEnums(), mixedEnums()...) {
		r := impl.Renumber(e)
		if !impl.ValidEnum(r) || !slices.Equal(impl.MembersOf(r), impl.MembersOf(e)) || len(impl.GapsOf(r)) > 0 || !sameEnum(impl.Renumber(r), r) {
			t.Fatalf("Renumber(%v) = %v, with the members %q and the gaps %v", e, r, impl.MembersOf(r), impl.GapsOf(r))
		}
		for rank, s := range impl.MembersOf(r) {
			if valueOf(t, r, s) != rank || !slices.Equal(impl.OtherNames(r, s), impl.OtherNames(e, s)) {
				t.Fatalf("Renumber(%v) = %v: the value of %q is not %d, or it has other names", e, r, s, rank)
			}
		}
		if !slices.Equal(namesOf(r), namesOf(e)) {
			t.Fatalf("Renumber(%v) = %v", e, r)
		}
	}
}

func TestP77MembersAreBits(t *testing.T) {
	for _, e := range append(validEnums(), mixedEnums()...) {
		f := impl.FlagOf(e)
		members := impl.MembersOf(e)
		if !impl.ValidFlag(f) || f.Bound != impl.BdStrict || !slices.Equal(impl.SinglesOf(f), members) || impl.MaskOf(f) != 1<<len(members)-1 {
			t.Fatalf("FlagOf(%v) = %v: MaskOf = %d, SinglesOf = %q", e, f, impl.MaskOf(f), impl.SinglesOf(f))
		}
		for _, s := range namesOf(e) {
			if n := valueOfNames(t, f, []string{s}); impl.CountBits(f, n) != 1 || !slices.Equal(impl.NamesIn(f, n), []string{memberOf(t, e, s)}) {
				t.Fatalf("FlagOf(%v) = %v: %q has %d", e, f, s, n)
			}
		}
		if back, r := impl.EnumOf(f), impl.Renumber(e); !sameEnum(back, r) {
			t.Fatalf("EnumOf(FlagOf(%v)) = %v, Renumber = %v", e, back, r)
		}
	}
}

func TestP78BitsAreMembers(t *testing.T) {
	several := 0
	for _, f := range append(validFlags(), flagsToConvert()...) {
		e := impl.EnumOf(f)
		var names []string
		for _, s := range namesOfFlag(f) {
			n := valueOfNames(t, f, []string{s})
			if impl.CountBits(f, n) != 1 {
				continue
			}
			names = append(names, s)
			if index, _ := impl.ValueOf(e, s); n != 1<<index {
				t.Fatalf("EnumOf(%v) = %v: %q is the bit %d", f, e, s, n)
			}
		}
		// SortEnum goes by bits, as SinglesOf does.
		members, singles := impl.MembersOf(impl.SortEnum(e)), impl.SinglesOf(f)
		if !impl.ValidEnum(e) || !slices.Equal(namesOf(e), names) || !slices.Equal(members, singles) || len(impl.MembersOf(e)) != len(singles) {
			t.Fatalf("EnumOf(%v) = %v, with the members %q, SinglesOf = %q", f, e, members, singles)
		}
		if len(names) > len(singles) {
			several++
		}
	}
	if several < 200 {
		t.Errorf("only %d classes have several names for one bit", several)
	}
}

func TestP79SetsHaveTheirMembers(t *testing.T) {
	fewer := 0
	memberLists(func(e impl.Enum, list []string) {
		n, ok := impl.SetOf(e, list)
		if !ok {
			t.Fatalf("SetOf(%v, %q) = %d, false", e, list, n)
		}
		var want []string
		for _, s := range impl.MembersOf(e) {
			if slices.ContainsFunc(list, func(name string) bool { return memberOf(t, e, name) == s }) {
				want = append(want, s)
			}
		}
		if names := impl.MembersIn(e, n); !slices.Equal(names, want) {
			t.Fatalf("SetOf(%v, %q) = %d, with the members %q", e, list, n, names)
		}
		if len(want) < len(list) {
			fewer++
		}
	})
	if fewer < 1000 {
		t.Errorf("only %d lists have names of one member", fewer)
	}
}

func TestP80MembersMakeTheirSet(t *testing.T) {
	enumSets(func(e impl.Enum, n int) {
		names := impl.MembersIn(e, n)
		if set, ok := impl.SetOf(e, names); !ok || set != n {
			t.Fatalf("MembersIn(%v, %d) = %q, which make %d, %v", e, n, names, set, ok)
		}
	})
}

func TestP81ConvertedValuesHaveTheSameNames(t *testing.T) {
	converted := 0
	conversions(func(f, g impl.Flag, a int) {
		if self, ok := impl.ConvertValue(f, f, a); ok != (impl.RestIn(f, a) == 0) || ok && self != a {
			t.Fatalf("ConvertValue(%v, %v, %d) = %d, %v", f, f, a, self, ok)
		}
		n, ok := impl.ConvertValue(f, g, a)
		want, named := impl.FromNames(g, impl.NamesIn(f, a))
		if ok != (named && impl.RestIn(f, a) == 0) || ok && n != want {
			t.Fatalf("ConvertValue(%v, %v, %d) = %d, %v, with the names %q and the rest %d", f, g, a, n, ok, impl.NamesIn(f, a), impl.RestIn(f, a))
		}
		if ok {
			converted++
		}
	})
	if converted < 1000 {
		t.Errorf("only %d values are converted", converted)
	}
}

func TestP82ConvertingGoesThroughEither(t *testing.T) {
	several := 0
	conversions(func(f, g impl.Flag, a int) {
		n, ok := impl.ConvertValue(f, g, a)
		sum, all := 0, true
		for _, bit := range bitsOf(a) {
			part, fits := impl.ConvertValue(f, g, bit)
			sum, all = plainOr(sum, part), all && fits
		}
		if ok != all || ok && n != sum {
			t.Fatalf("ConvertValue(%v, %v, %d) = %d, %v, and bit by bit %d, %v", f, g, a, n, ok, sum, all)
		}
		if ok && len(bitsOf(a)) > 1 {
			several++
		}
	})
	if several < 1000 {
		t.Errorf("only %d values with several bits are converted", several)
	}
}

func TestP83TablesHaveAllMembers(t *testing.T) {
	others := 0
	tables(func(e impl.Enum, list []impl.Def) {
		numbers, ok := impl.TableOf(e, list)
		if !ok || len(numbers) != len(impl.MembersOf(e)) {
			t.Fatalf("TableOf(%v, %v) = %v, %v", e, list, numbers, ok)
		}
		for _, d := range list {
			if n, ok := impl.LookUp(e, numbers, d.Name); !ok || n != d.Value {
				t.Fatalf("TableOf(%v, %v) = %v, in which %q has %d, %v", e, list, numbers, d.Name, n, ok)
			}
			if memberOf(t, e, d.Name) != d.Name {
				others++
			}
		}
	})
	if others < 1000 {
		t.Errorf("only %d definitions have other names", others)
	}
}

func TestP84OtherNamesLookUpTheSame(t *testing.T) {
	tables(func(e impl.Enum, list []impl.Def) {
		numbers, ok := impl.TableOf(e, list)
		if !ok {
			t.Fatalf("TableOf(%v, %v) = %v, false", e, list, numbers)
		}
		for _, s := range namesOf(e) {
			n, found := impl.LookUp(e, numbers, s)
			same, ok := impl.LookUp(e, numbers, memberOf(t, e, s))
			if !found || !ok || n != same || n != numbers[impl.RankOf(e, s)] {
				t.Fatalf("LookUp(%v, %v, %q) = %d, %v, and of its member %d, %v", e, numbers, s, n, found, same, ok)
			}
		}
	})
}

func TestP85NewValuesAreThoseOfTheTable(t *testing.T) {
	tables(func(e impl.Enum, list []impl.Def) {
		numbers, _ := impl.TableOf(e, list)
		after, ok := impl.Revalue(e, numbers)
		if !ok || !impl.ValidEnum(after) || !slices.Equal(namesOf(after), namesOf(e)) {
			t.Fatalf("Revalue(%v, %v) = %v, %v", e, numbers, after, ok)
		}
		for _, s := range namesOf(e) {
			if n, ok := impl.LookUp(e, numbers, s); !ok || valueOf(t, after, s) != n {
				t.Fatalf("Revalue(%v, %v) = %v: LookUp of %q = %d, %v", e, numbers, after, s, n, ok)
			}
		}
		var byRank []int
		for _, s := range impl.MembersOf(e) {
			byRank = append(byRank, impl.RankOf(e, s))
		}
		if r, ok := impl.Revalue(e, byRank); !ok || !sameEnum(r, impl.Renumber(e)) {
			t.Fatalf("Revalue(%v) with ranks = %v, %v, Renumber = %v", e, r, ok, impl.Renumber(e))
		}
	})
}
