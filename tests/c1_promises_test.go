package tests

import (
	"slices"
	"strings"
	"testing"

	"loop.example/namedflags/impl"
)

func TestP1NamesAreShort(t *testing.T) {
	sequences(4, impl.MaxName, func(list []int) {
		s := ""
		for _, k := range list {
			s += "amyz"[k : k+1]
		}
		if impl.ValidName(s) != (len(s) > 0) {
			t.Fatalf("ValidName(%q) = %v", s, len(s) == 0)
		}
		if len(s) > 1 && !impl.ValidName(s[1:]) {
			t.Fatalf("ValidName(%q) = false without the first letter", s)
		}
		if len(s) > 0 && impl.ValidName(s+strings.Repeat("q", 6)) {
			t.Fatalf("ValidName(%q) = true with six more letters", s)
		}
	})
}

func TestP2EnumerationsCanBeCut(t *testing.T) {
	for _, e := range validEnums() {
		if !impl.ValidEnum(e) {
			t.Fatalf("ValidEnum(%v) = false", e)
		}
		if n := len(e.Defs); n > 0 && !impl.ValidEnum(impl.Enum{Defs: e.Defs[:n-1]}) {
			t.Fatalf("ValidEnum(%v) = false without the last name", e)
		}
		for _, s := range impl.MembersOf(e) {
			n, _ := impl.ValueOf(e, s)
			if name, ok := impl.NameOf(e, n); !ok || name != s {
				t.Fatalf("NameOf(%v, %d) = %q, %v", e, n, name, ok)
			}
		}
	}
}

// autoValue returns the value of an automatic item behind definitions, counted down from the top.
func autoValue(defs []impl.Def) int {
	if len(defs) == 0 {
		return 1
	}
	for n := impl.MaxValue; ; n-- {
		if slices.ContainsFunc(defs, func(d impl.Def) bool { return d.Value == n }) {
			return n + 1
		}
	}
}

func TestP3AutomaticValuesAreNew(t *testing.T) {
	values := []int{-1000, -3, 0, 2, 1000}
	sequences(len(values)+1, 4, func(list []int) {
		var items []impl.Item
		var want impl.Enum
		fits := true
		for i, k := range list {
			name := letters[i : i+1]
			if k < len(values) {
				items = append(items, own(name, values[k]))
				want.Defs = append(want.Defs, impl.Def{Name: name, Value: values[k]})
				continue
			}
			items = append(items, auto(name))
			n := autoValue(want.Defs)
			if n > impl.MaxValue {
				fits = false
				break
			}
			want.Defs = append(want.Defs, impl.Def{Name: name, Value: n})
		}
		e, ok := impl.BuildEnum(items)
		if ok != fits || fits && !sameEnum(e, want) || !fits && len(e.Defs) != 0 {
			t.Fatalf("BuildEnum(%v) = %v, %v", items, e, ok)
		}
	})
}

func TestP4WhatIsBuiltIsBuiltAgain(t *testing.T) {
	for _, e := range validEnums() {
		built, ok := impl.BuildEnum(itemsOf(e))
		if !ok || !sameEnum(built, e) {
			t.Fatalf("BuildEnum(%v) = %v, %v", e, built, ok)
		}
		again, ok := impl.BuildEnum(itemsOf(built))
		if !ok || !sameEnum(again, built) {
			t.Fatalf("BuildEnum again of %v = %v, %v", built, again, ok)
		}
	}
}

func TestP5OtherNamesHaveOneValue(t *testing.T) {
	for _, e := range validEnums() {
		for _, d := range e.Defs {
			member, _ := impl.NameOf(e, d.Value)
			if n, ok := impl.ValueOf(e, member); !ok || n != d.Value {
				t.Fatalf("ValueOf(%v, %q) = %d, %v", e, member, n, ok)
			}
			if n, ok := impl.ValueOf(e, d.Name); !ok || n != d.Value {
				t.Fatalf("ValueOf(%v, %q) = %d, %v", e, d.Name, n, ok)
			}
		}
	}
}

func TestP6ValuesHaveMembers(t *testing.T) {
	for _, e := range validEnums() {
		members := impl.MembersOf(e)
		for _, d := range e.Defs {
			s, ok := impl.NameOf(e, d.Value)
			if n, _ := impl.ValueOf(e, s); !ok || !slices.Contains(members, s) || n != d.Value {
				t.Fatalf("NameOf(%v, %d) = %q, %v", e, d.Value, s, ok)
			}
		}
	}
}

func TestP7MembersAndOtherNamesAreAllNames(t *testing.T) {
	for _, e := range validEnums() {
		members := impl.MembersOf(e)
		all := slices.Clone(members)
		for _, s := range members {
			for _, other := range impl.OtherNames(e, s) {
				if slices.Contains(members, other) {
					t.Fatalf("%v: %q is a member and another name", e, other)
				}
				all = append(all, other)
			}
		}
		names := namesOf(e)
		slices.Sort(all)
		slices.Sort(names)
		if !slices.Equal(all, names) {
			t.Fatalf("%v: members and other names are %q", e, all)
		}
	}
}

func TestP8OtherNamesAreOfOneMember(t *testing.T) {
	for _, e := range validEnums() {
		for _, d := range e.Defs {
			list := impl.OtherNames(e, d.Name)
			for _, other := range list {
				n, _ := impl.ValueOf(e, other)
				if n != d.Value || !slices.Equal(impl.OtherNames(e, other), list) {
					t.Fatalf("OtherNames(%v, %q) = %q", e, other, impl.OtherNames(e, other))
				}
			}
		}
	}
}

func TestP9UniqueEnumerationsHaveOnlyMembers(t *testing.T) {
	for _, e := range validEnums() {
		if impl.IsUnique(e) != (len(impl.MembersOf(e)) == len(e.Defs)) {
			t.Fatalf("IsUnique(%v) = %v", e, impl.IsUnique(e))
		}
	}
}

// plainGaps returns all values between the least and the greatest one that an enumeration does not have.
func plainGaps(e impl.Enum) []int {
	var gaps []int
	for n := -impl.MaxValue; n <= impl.MaxValue; n++ {
		below, above, here := false, false, false
		for _, d := range e.Defs {
			below = below || d.Value < n
			above = above || d.Value > n
			here = here || d.Value == n
		}
		if below && above && !here {
			gaps = append(gaps, n)
		}
	}
	return gaps
}

func TestP10GapsAreBetweenValues(t *testing.T) {
	told := 0
	for _, e := range validEnums() {
		want := plainGaps(e)
		if len(want) > impl.MaxGaps {
			want = nil
		}
		if gaps := impl.GapsOf(e); !slices.Equal(gaps, want) {
			t.Fatalf("GapsOf(%v) = %v", e, gaps)
		}
		if len(want) > 0 {
			told++
		}
	}
	if told < 100 {
		t.Errorf("only %d enumerations with gaps", told)
	}
}

func TestP11RanksAreOfMembers(t *testing.T) {
	for _, e := range validEnums() {
		for _, d := range e.Defs {
			member, _ := impl.NameOf(e, d.Value)
			if rank := impl.RankOf(e, d.Name); rank != slices.Index(impl.MembersOf(e), member) || rank < 0 {
				t.Fatalf("RankOf(%v, %q) = %d", e, d.Name, rank)
			}
		}
	}
}

func TestP12MembersGoRound(t *testing.T) {
	for _, e := range validEnums() {
		members := impl.MembersOf(e)
		for _, d := range e.Defs {
			rank := impl.RankOf(e, d.Name)
			s := d.Name
			for step := range members {
				next, ok := impl.NextMember(e, s)
				if !ok || next != members[(rank+step+1)%len(members)] {
					t.Fatalf("NextMember(%v, %q) = %q, %v", e, s, next, ok)
				}
				s = next
			}
			if member, _ := impl.NameOf(e, d.Value); s != member {
				t.Fatalf("%v: members from %q go round to %q", e, d.Name, s)
			}
		}
	}
}
