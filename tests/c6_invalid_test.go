package tests

import (
	"math"
	"slices"
	"testing"

	"loop.example/namedflags/impl"
)

// oddArms returns arms that are not valid for a class whose mask is told: with bits beyond it, in both places, and below 0.
func oddArms(mask int) []impl.Arm {
	list := []impl.Arm{
		arm(-1, 0), arm(0, -1), arm(-1, -1), arm(-4096, 0), arm(0, -4096), arm(4096, 0), arm(0, 4096), arm(mask+4096, 0), arm(0, mask+8192),
		arm(math.MinInt, 0), arm(0, math.MinInt), arm(math.MinInt, math.MinInt), arm(math.MaxInt, 0), arm(0, math.MaxInt), arm(math.MaxInt, math.MinInt), arm(-mask-1, 0), arm(0, -mask-1),
	}
	for _, bit := range bitsOf(impl.MaxFlag) {
		if hasBit(mask, bit) {
			list = append(list, arm(bit, bit), arm(mask, bit), arm(bit, mask))
		} else {
			list = append(list, arm(bit, 0), arm(0, bit), arm(mask+bit, 0), arm(0, mask+bit), arm(bit, mask), arm(bit, bit))
		}
	}
	return list
}

// checkOddArm checks that an arm that is not valid for a class, alone or with others, has the fixed results.
func checkOddArm(t *testing.T, f impl.Flag, a impl.Arm) {
	t.Helper()
	if impl.ValidArm(f, a) || impl.CountArm(f, a) != -1 || impl.ArmText(f, a) != "" {
		t.Errorf("%v: ValidArm(%v) = %v, CountArm = %d, ArmText = %q", f, a, impl.ValidArm(f, a), impl.CountArm(f, a), impl.ArmText(f, a))
	}
	for _, b := range []impl.Arm{{}, arm(plainMask(f.Defs), 0), a} {
		if impl.ArmsMeet(f, a, b) || impl.ArmsMeet(f, b, a) || impl.ArmCovers(f, a, b) || impl.ArmCovers(f, b, a) {
			t.Errorf("%v: %v and %v meet, or one covers the other", f, a, b)
		}
	}
	for _, n := range []int{0, plainMask(f.Defs), a.All, ^a.None, a.All | a.None, impl.MaxFlag, impl.MaxFlag &^ a.None} {
		if impl.MatchArm(f, a, n) {
			t.Errorf("MatchArm(%v, %v, %d) = true", f, a, n)
		}
	}
	for _, list := range [][]impl.Arm{{a}, {{}, a}, {a, {}}, {{}, {}, a, {}}, slices.Repeat([]impl.Arm{a}, impl.MaxArms)} {
		if impl.FirstArm(f, list, 0) != -2 || impl.FirstMissed(f, list) != -2 || impl.DeadArms(f, list) != nil {
			t.Errorf("%v: FirstArm(%v, 0) = %d, FirstMissed = %d, DeadArms = %v", f, list, impl.FirstArm(f, list, 0), impl.FirstMissed(f, list), impl.DeadArms(f, list))
		}
	}
}

func TestArmsThatAreNotValid(t *testing.T) {
	for _, f := range flagsForArms() {
		for _, a := range oddArms(plainMask(f.Defs)) {
			checkOddArm(t, f, a)
		}
	}
}

func TestArmsOfNumbersThatAreNoValues(t *testing.T) {
	for _, f := range flagsForArms() {
		mask := plainMask(f.Defs)
		for _, n := range nonValues(f) {
			for _, a := range []impl.Arm{{}, arm(mask, 0), arm(0, mask), arm(plainAnd(mask, 2730), plainAnd(mask, 1365))} {
				if impl.MatchArm(f, a, n) || impl.FirstArm(f, []impl.Arm{a}, n) != -2 || impl.FirstArm(f, nil, n) != -2 {
					t.Errorf("%v: MatchArm(%v, %d) = %v, FirstArm = %d", f, a, n, impl.MatchArm(f, a, n), impl.FirstArm(f, []impl.Arm{a}, n))
				}
			}
		}
	}
}

func TestArmsOfInvalidFlags(t *testing.T) {
	for _, f := range invalidFlags() {
		for _, a := range []impl.Arm{{}, arm(1, 0), arm(0, 2), arm(2, 1), arm(-1, 0), arm(0, 4095), arm(4096, 0)} {
			checkOddArm(t, f, a)
		}
		for _, n := range []int{-1, 0, 1, 2, 4095} {
			if impl.FirstArm(f, nil, n) != -2 || impl.GreatestArms(f, []int{n}) != nil {
				t.Errorf("%v: FirstArm(nil, %d) = %d, GreatestArms = %v", f, n, impl.FirstArm(f, nil, n), impl.GreatestArms(f, []int{n}))
			}
		}
		if impl.FirstMissed(f, nil) != -2 || impl.DeadArms(f, nil) != nil || impl.GreatestArms(f, nil) != nil {
			t.Errorf("%v: FirstMissed(nil) = %d, DeadArms = %v, GreatestArms = %v", f, impl.FirstMissed(f, nil), impl.DeadArms(f, nil), impl.GreatestArms(f, nil))
		}
		for _, s := range append(namesOfFlag(f), "", "*", "a", "!a", "a b", "in", "!lock", "out in") {
			checkNoArm(t, f, s)
			checkNoArm(t, f, "!"+s)
		}
	}
}

func TestMissedMembersOfInvalidEnumerations(t *testing.T) {
	for _, e := range invalidEnums() {
		for _, list := range [][]string{nil, {}, {"a"}, {"zz"}, namesOf(e)} {
			if names := impl.MissedMembers(e, list); names != nil {
				t.Errorf("MissedMembers(%v, %q) = %q", e, list, names)
			}
		}
	}
}
