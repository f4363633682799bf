package tests

import (
	"slices"
	"testing"

	"loop.example/namedflags/impl"
)

func TestArmsMatchAsTheDocumentSays(t *testing.T) {
	g := generator(25)
	matched, others := 0, 0
	arms(func(f impl.Flag, a impl.Arm) {
		for range 4 {
			n := someValue(&g, f)
			if g.below(2) == 0 {
				n = plainLess(plainOr(n, a.All), a.None)
			}
			want := plainMatches(a, n)
			if impl.MatchArm(f, a, n) != want {
				t.Fatalf("MatchArm(%v, %v, %d) = %v", f, a, n, !want)
			}
			if want {
				matched++
			} else {
				others++
			}
		}
	})
	if matched < 1000 || others < 1000 {
		t.Errorf("only %d values are matched, %d are not", matched, others)
	}
}

func TestArmsMissAndDieAsTheDocumentSays(t *testing.T) {
	missing, dying := 0, 0
	armLists(func(f impl.Flag, list []impl.Arm) {
		missed, dead := plainOutcome(plainMask(f.Defs), list)
		if n := impl.FirstMissed(f, list); n != missed {
			t.Fatalf("FirstMissed(%v, %v) = %d, want %d", f, list, n, missed)
		}
		if found := impl.DeadArms(f, list); !slices.Equal(found, dead) {
			t.Fatalf("DeadArms(%v, %v) = %v, want %v", f, list, found, dead)
		}
		if missed > 0 {
			missing++
		}
		if len(dead) > 0 {
			dying++
		}
	})
	if missing < 100 || dying < 500 {
		t.Errorf("only %d lists miss a number above 0, and %d have dead arms", missing, dying)
	}
}

func TestArmsMeetAndCoverAsTheDocumentSays(t *testing.T) {
	g := generator(26)
	met, covered := 0, 0
	armPairs(func(f impl.Flag, a, b impl.Arm) {
		numbers := plainNumbers(plainMask(f.Defs))
		// Some of the classes with many numbers are enough.
		if len(numbers) > 128 && g.below(20) > 0 {
			return
		}
		first, second := plainMatched(a, numbers), plainMatched(b, numbers)
		meet := slices.ContainsFunc(first, func(n int) bool { return plainMatches(b, n) })
		covers := !slices.ContainsFunc(second, func(n int) bool { return !plainMatches(a, n) })
		if impl.ArmsMeet(f, a, b) != meet || impl.ArmCovers(f, a, b) != covers || impl.CountArm(f, a) != len(first) {
			t.Fatalf("%v, %v and %v: ArmsMeet = %v, ArmCovers = %v, CountArm = %d", f, a, b, !meet, impl.ArmCovers(f, a, b), impl.CountArm(f, a))
		}
		if meet {
			met++
		}
		if covers {
			covered++
		}
	})
	if met < 1000 || covered < 1000 {
		t.Errorf("only %d arms meet, and %d cover", met, covered)
	}
}

func TestP59ArmsCanBeLess(t *testing.T) {
	arms(func(f impl.Flag, a impl.Arm) {
		if !impl.ValidArm(f, a) || !impl.ValidArm(f, arm(a.All, 0)) || !impl.ValidArm(f, arm(0, a.None)) {
			t.Fatalf("%v: ValidArm(%v) = %v, without None %v, without All %v", f, a, impl.ValidArm(f, a), impl.ValidArm(f, arm(a.All, 0)), impl.ValidArm(f, arm(0, a.None)))
		}
	})
}

func TestP60ArmsMatchWhatTheyTell(t *testing.T) {
	matched := 0
	check := func(f impl.Flag, a impl.Arm, n int) {
		want := impl.HasAll(f, n, a.All) && impl.AndValues(f, n, a.None) == 0
		if impl.MatchArm(f, a, n) != want {
			t.Fatalf("MatchArm(%v, %v, %d) = %v", f, a, n, !want)
		}
		if want {
			matched++
		}
	}
	g := generator(27)
	arms(func(f impl.Flag, a impl.Arm) {
		if none := impl.InvertValue(f, a.None); !impl.MatchArm(f, a, a.All) || !impl.MatchArm(f, a, none) {
			t.Fatalf("%v: %v matches All: %v, the inverted None, which is %d: %v", f, a, impl.MatchArm(f, a, a.All), none, impl.MatchArm(f, a, none))
		}
		for _, n := range []int{0, plainMask(f.Defs), plainWhole(f), someValue(&g, f), plainOr(a.All, plainLess(someValue(&g, f), a.None))} {
			check(f, a, n)
		}
	})
	for _, f := range smallFlags() {
		for _, a := range plainArms(plainMask(f.Defs)) {
			for _, n := range smallValues(f, 31) {
				check(f, a, n)
			}
		}
	}
	if matched < 1000 {
		t.Errorf("only %d values are matched", matched)
	}
}

func TestP61FirstArmsComeFirst(t *testing.T) {
	g := generator(28)
	found, later, none := 0, 0, 0
	armLists(func(f impl.Flag, list []impl.Arm) {
		for _, n := range []int{0, plainWhole(f), someValue(&g, f), someValue(&g, f)} {
			first := impl.FirstArm(f, list, n)
			ahead := list
			switch {
			case first == -1:
				none++
			case first < 0 || first >= len(list) || !impl.MatchArm(f, list[first], n):
				t.Fatalf("FirstArm(%v, %v, %d) = %d, which does not match", f, list, n, first)
			default:
				found++
				later += min(first, 1)
				ahead = list[:first]
			}
			for i, a := range ahead {
				if impl.MatchArm(f, a, n) {
					t.Fatalf("FirstArm(%v, %v, %d) = %d, but %d matches", f, list, n, first, i)
				}
			}
		}
	})
	if found < 1000 || later < 1000 || none < 1000 {
		t.Errorf("only %d values have an arm, %d of them not the first one, and %d have none", found, later, none)
	}
}

func TestP62WhatIsMissedHasNoArm(t *testing.T) {
	again := 0
	armLists(func(f impl.Flag, list []impl.Arm) {
		mask := impl.MaskOf(f)
		list = slices.Clone(list)
		for before := -1; len(list) <= impl.MaxArms; {
			n := impl.FirstMissed(f, list)
			if n == -1 {
				return
			}
			if n <= before || impl.FirstArm(f, list, n) != -1 || !impl.HasAll(f, mask, n) {
				t.Fatalf("FirstMissed(%v, %v) = %d, and was %d before, FirstArm of it = %d", f, list, n, before, impl.FirstArm(f, list, n))
			}
			if before >= 0 {
				again++
			}
			before = n
			list = append(list, arm(n, impl.LessValues(f, mask, n)))
		}
	})
	if again < 1000 {
		t.Errorf("only %d times a number is missed again", again)
	}
}

func TestP63WithAnArmForAllNothingIsMissed(t *testing.T) {
	armLists(func(f impl.Flag, list []impl.Arm) {
		if n := impl.FirstMissed(f, nil); n != 0 {
			t.Fatalf("FirstMissed(%v, nil) = %d", f, n)
		}
		if len(list) == impl.MaxArms {
			list = list[1:]
		}
		for i := range len(list) + 1 {
			with := slices.Insert(slices.Clone(list), i, impl.Arm{})
			if n := impl.FirstMissed(f, with); n != -1 {
				t.Fatalf("FirstMissed(%v, %v) = %d", f, with, n)
			}
		}
	})
}

func TestP64DeadArmsCanBeLeftOut(t *testing.T) {
	dying := 0
	armLists(func(f impl.Flag, list []impl.Arm) {
		dead := impl.DeadArms(f, list)
		var alive []impl.Arm
		for i, a := range list {
			if !slices.Contains(dead, i) {
				alive = append(alive, a)
			}
		}
		if len(alive)+len(dead) != len(list) || impl.FirstMissed(f, alive) != impl.FirstMissed(f, list) || len(impl.DeadArms(f, alive)) > 0 {
			t.Fatalf("%v: %v without DeadArms, which are %v: FirstMissed = %d, DeadArms = %v", f, list, dead, impl.FirstMissed(f, alive), impl.DeadArms(f, alive))
		}
		// Any other arm has a number of its own, so that without it that one is missed, or another arm has it.
		for i := range list {
			if !slices.Contains(dead, i) && plainNeedless(f, list, i) {
				t.Fatalf("DeadArms(%v, %v) = %v, but not %d", f, list, dead, i)
			}
		}
		dying += len(dead)
	})
	if dying < 1000 {
		t.Errorf("only %d arms are dead", dying)
	}
}

// plainNeedless reports whether all numbers that an arm of a list matches are matched ahead of it, or there are many numbers.
func plainNeedless(f impl.Flag, list []impl.Arm, i int) bool {
	mask := plainMask(f.Defs)
	if len(bitsOf(mask)) > 7 {
		return false
	}
	return !slices.ContainsFunc(plainMatched(list[i], plainNumbers(mask)), func(n int) bool { return plainFirst(list, n) == i })
}

func TestP65CoveredArmsAreDead(t *testing.T) {
	covered := 0
	armLists(func(f impl.Flag, list []impl.Arm) {
		dead := impl.DeadArms(f, list)
		if slices.Contains(dead, 0) {
			t.Fatalf("DeadArms(%v, %v) = %v", f, list, dead)
		}
		for i, a := range list {
			if !slices.ContainsFunc(list[:i], func(b impl.Arm) bool { return impl.ArmCovers(f, b, a) }) {
				continue
			}
			covered++
			if !slices.Contains(dead, i) {
				t.Fatalf("DeadArms(%v, %v) = %v, but one ahead of %d covers it", f, list, dead, i)
			}
		}
	})
	if covered < 1000 {
		t.Errorf("only %d arms are covered", covered)
	}
}

func TestP66ArmsThatMeetMatchOneNumber(t *testing.T) {
	met, others := 0, 0
	armPairs(func(f impl.Flag, a, b impl.Arm) {
		n := impl.OrValues(f, a.All, b.All)
		both := impl.MatchArm(f, a, n) && impl.MatchArm(f, b, n)
		if impl.ArmsMeet(f, a, b) != both || impl.ArmsMeet(f, b, a) != both {
			t.Fatalf("ArmsMeet(%v, %v, %v) = %v, the other way round %v, both match %d: %v", f, a, b, impl.ArmsMeet(f, a, b), impl.ArmsMeet(f, b, a), n, both)
		}
		if both {
			met++
		} else {
			others++
		}
	})
	if met < 1000 || others < 1000 {
		t.Errorf("only %d arms meet, %d do not", met, others)
	}
}

func TestP67ArmsThatCoverMatchMore(t *testing.T) {
	covered, others := 0, 0
	armPairs(func(f impl.Flag, a, b impl.Arm) {
		covers := impl.MatchArm(f, a, b.All) && impl.MatchArm(f, a, impl.InvertValue(f, b.None))
		if impl.ArmCovers(f, a, b) != covers {
			t.Fatalf("ArmCovers(%v, %v, %v) = %v", f, a, b, !covers)
		}
		if !covers {
			others++
			return
		}
		covered++
		if impl.CountArm(f, a) < impl.CountArm(f, b) {
			t.Fatalf("%v: %v covers %v, but CountArm = %d, and %d", f, a, b, impl.CountArm(f, a), impl.CountArm(f, b))
		}
	})
	if covered < 1000 || others < 1000 {
		t.Errorf("only %d arms cover, %d do not", covered, others)
	}
}

func TestP68ArmsAreCountedByTheirFreeBits(t *testing.T) {
	halved := 0
	arms(func(f impl.Flag, a impl.Arm) {
		count := impl.CountArm(f, a)
		free := bitsOf(impl.LessValues(f, impl.MaskOf(f), impl.OrValues(f, a.All, a.None)))
		if len(free) == 0 && count != 1 {
			t.Fatalf("CountArm(%v, %v) = %d", f, a, count)
		}
		for _, bit := range free {
			with, without := impl.CountArm(f, arm(a.All+bit, a.None)), impl.CountArm(f, arm(a.All, a.None+bit))
			if with != without || with+without != count {
				t.Fatalf("CountArm(%v, %v) = %d, with %d in All %d, with it in None %d", f, a, count, bit, with, without)
			}
			halved++
		}
	})
	if halved < 1000 {
		t.Errorf("only %d bits are free", halved)
	}
}

func TestP69GreatestArmsMatchJustTheNumbers(t *testing.T) {
	several := 0
	wantedLists(func(f impl.Flag, list []int) {
		greatest := impl.GreatestArms(f, list)
		for _, n := range plainNumbers(plainMask(f.Defs)) {
			matched := slices.ContainsFunc(greatest, func(a impl.Arm) bool { return impl.MatchArm(f, a, n) })
			if matched != slices.Contains(list, n) {
				t.Fatalf("GreatestArms(%v, %v) = %v: one matches %d: %v", f, list, greatest, n, matched)
			}
		}
		for i, a := range greatest {
			for k, b := range greatest {
				if i != k && impl.ArmCovers(f, a, b) {
					t.Fatalf("GreatestArms(%v, %v) = %v: %v covers %v", f, list, greatest, a, b)
				}
			}
			checkNoGreater(t, f, list, a)
		}
		if len(greatest) > 1 {
			several++
		}
	})
	if several < 200 {
		t.Errorf("only %d lists have several arms", several)
	}
}

// checkNoGreater checks that an arm that tells one bit less than one of GreatestArms matches other numbers.
func checkNoGreater(t *testing.T, f impl.Flag, list []int, a impl.Arm) {
	t.Helper()
	for _, bit := range bitsOf(plainOr(a.All, a.None)) {
		b := arm(plainLess(a.All, bit), plainLess(a.None, bit))
		if !slices.ContainsFunc(plainNumbers(plainMask(f.Defs)), func(n int) bool { return impl.MatchArm(f, b, n) && !slices.Contains(list, n) }) {
			t.Fatalf("%v is one of GreatestArms(%v, %v), but %v matches no others", a, f, list, b)
		}
	}
}

func TestP70WhatIsMissedIsAMember(t *testing.T) {
	missing := 0
	memberLists(func(e impl.Enum, list []string) {
		missed := impl.MissedMembers(e, list)
		members := impl.MembersOf(e)
		for _, s := range missed {
			named := slices.ContainsFunc(list, func(name string) bool { return impl.RankOf(e, name) == impl.RankOf(e, s) })
			if named || !slices.Contains(members, s) {
				t.Fatalf("MissedMembers(%v, %q) = %q, with %q", e, list, missed, s)
			}
		}
		if names := impl.MissedMembers(e, slices.Concat(list, missed)); len(names) > 0 {
			t.Fatalf("MissedMembers(%v, %q) = %q, and with them %q", e, list, missed, names)
		}
		missing += len(missed)
	})
	if missing < 1000 {
		t.Errorf("only %d members are missed", missing)
	}
}

func TestP71ArmsAreReadBack(t *testing.T) {
	read := 0
	arms(func(f impl.Flag, a impl.Arm) {
		s := impl.ArmText(f, a)
		if s == "" {
			if impl.LooseBits(f)&(a.All|a.None) == 0 {
				t.Fatalf("ArmText(%v, %v) = %q, but all of its bits have names", f, a, s)
			}
			return
		}
		read++
		if b, ok := impl.ParseArm(f, s); !ok || b != a {
			t.Fatalf("%v: ArmText(%v) = %q, which is read as %v, %v", f, a, s, b, ok)
		}
	})
	if read < 1000 {
		t.Errorf("only %d arms have a text", read)
	}
}

func TestP72ArmsAreWrittenBack(t *testing.T) {
	g := generator(29)
	read := 0
	for _, f := range append(flagsForArms(), validFlags()...) {
		for range 20 {
			s := someArmText(&g, f)
			a, ok := impl.ParseArm(f, s)
			if !ok {
				continue
			}
			read++
			if text := impl.ArmText(f, a); text != s || !impl.ValidArm(f, a) {
				t.Fatalf("%v: %q is read as %v, which is valid: %v, and written as %q", f, s, a, impl.ValidArm(f, a), text)
			}
		}
		if a, ok := impl.ParseArm(f, "*"); !ok || impl.ArmText(f, a) != "*" {
			t.Fatalf("%v: * is read as %v, %v, and written as %q", f, a, ok, impl.ArmText(f, a))
		}
	}
	if read < 1000 {
		t.Errorf("only %d texts are read", read)
	}
}
