package tests

import (
	"math"
	"slices"
	"testing"

	"loop.example/namedflags/impl"
)

// checkGreatest checks the greatest arms of numbers.
func checkGreatest(t *testing.T, f impl.Flag, list []int, want ...impl.Arm) {
	t.Helper()
	if arms := impl.GreatestArms(f, list); !slices.Equal(arms, want) {
		t.Errorf("GreatestArms(%v, %v) = %v, want %v", f, list, arms, want)
	}
}

func TestGreatestArms(t *testing.T) {
	for _, bound := range allBounds {
		f := three(bound)
		checkGreatest(t, f, nil)
		checkGreatest(t, f, []int{})
		checkGreatest(t, f, []int{0, 1, 2, 3, 4, 5, 6, 7}, arm(0, 0))
		checkGreatest(t, f, []int{7, 5, 6, 4, 0, 2, 1, 3}, arm(0, 0))
		checkGreatest(t, f, []int{0}, arm(0, 7))
		checkGreatest(t, f, []int{7}, arm(7, 0))
		checkGreatest(t, f, []int{5}, arm(5, 2))
		checkGreatest(t, f, []int{7, 0}, arm(0, 7), arm(7, 0))
		checkGreatest(t, f, []int{1, 0}, arm(0, 6))
		checkGreatest(t, f, []int{0, 1, 2}, arm(0, 5), arm(0, 6))
		checkGreatest(t, f, []int{1, 3, 7, 5, 2}, arm(1, 0), arm(2, 4))
		checkGreatest(t, f, []int{4, 5, 6, 7}, arm(4, 0))
		checkGreatest(t, f, []int{0, 1, 4, 5}, arm(0, 2))
		// Arms of which each matches numbers that others match, too.
		checkGreatest(t, f, []int{1, 5, 2, 3}, arm(1, 2), arm(1, 4), arm(2, 4))
		checkGreatest(t, f, []int{1, 2, 3, 4, 5, 6}, arm(1, 2), arm(1, 4), arm(2, 1), arm(2, 4), arm(4, 1), arm(4, 2))
		checkGreatest(t, f, []int{1, 2, 3, 4, 5, 6, 7}, arm(1, 0), arm(2, 0), arm(4, 0))
		checkGreatest(t, f, []int{0, 1, 2, 3, 4, 5, 6}, arm(0, 1), arm(0, 2), arm(0, 4))
		checkGreatest(t, f, []int{7, 4, 2, 1}, arm(1, 6), arm(2, 5), arm(4, 3), arm(7, 0))
		// Numbers that are there twice.
		checkGreatest(t, f, []int{1, 1}, arm(1, 6))
		checkGreatest(t, f, []int{0, 7, 0, 7, 7}, arm(0, 7), arm(7, 0))
	}
}

func TestGreatestArmsOfOtherBits(t *testing.T) {
	for _, bound := range allBounds {
		checkGreatest(t, doors(bound), []int{72, 74}, arm(72, 260))
		checkGreatest(t, doors(bound), []int{334}, arm(334, 0))
		checkGreatest(t, doors(bound), []int{0, 8, 64, 72}, arm(0, 262))
		checkGreatest(t, flagOf(bound, 2049), []int{0, 1, 2048}, arm(0, 1), arm(0, 2048))
		checkGreatest(t, flagOf(bound, 2049), []int{2048, 2049}, arm(2048, 0))
		for _, none := range []impl.Flag{{Bound: bound}, flagOf(bound, 0, 0)} {
			checkGreatest(t, none, nil)
			checkGreatest(t, none, []int{0}, impl.Arm{})
			checkGreatest(t, none, []int{0, 0}, impl.Arm{})
			checkGreatest(t, none, []int{1})
			checkGreatest(t, none, []int{0, 1})
		}
	}
}

func TestGreatestArmsAtTheLimits(t *testing.T) {
	for _, bound := range allBounds {
		f := sixBits(bound)
		mask := 2389
		numbers := plainNumbers(mask)
		var without, with []impl.Arm
		for _, bit := range bitsOf(mask) {
			without = append(without, arm(0, bit))
			with = append(with, arm(bit, 0))
		}
		checkGreatest(t, f, nil)
		checkGreatest(t, f, []int{0}, arm(0, mask))
		checkGreatest(t, f, []int{mask}, arm(mask, 0))
		checkGreatest(t, f, numbers, impl.Arm{})
		checkGreatest(t, f, numbers[:63], without...)
		checkGreatest(t, f, numbers[1:], with...)
		checkGreatest(t, f, append([]int{mask}, numbers[1:]...), with...)
		checkGreatest(t, f, slices.Repeat([]int{0}, impl.MaxNumbers), arm(0, mask))
		// One number more, even if it is there already.
		checkGreatest(t, f, append([]int{0}, numbers...))
		checkGreatest(t, f, slices.Repeat([]int{0}, impl.MaxNumbers+1))
		checkGreatest(t, three(bound), slices.Repeat([]int{0, 1, 2, 3, 4, 5, 6, 7}, 8), impl.Arm{})
		checkGreatest(t, three(bound), slices.Repeat([]int{0, 1, 2, 3, 4, 5, 6, 7}, 9))
		for _, list := range [][]int{nil, {0}, {1}, {2389}, {2421}, numbers} {
			checkGreatest(t, sevenBits(bound), list)
			checkGreatest(t, fullFlag(bound), list)
		}
	}
}

func TestGreatestArmsOfNumbersBeyondTheMask(t *testing.T) {
	for _, bound := range allBounds {
		for _, n := range []int{8, 9, 15, 16, 2048, 4095, 4096, 4097, 8192, -1, -8, -4096, math.MinInt, math.MaxInt} {
			for _, list := range [][]int{{n}, {0, n}, {n, 1}, {0, 1, 2, 3, n, 4, 5, 6, 7}} {
				checkGreatest(t, three(bound), list)
			}
		}
		// 1 is below the mask, but none of its bits.
		checkGreatest(t, doors(bound), []int{1})
		checkGreatest(t, doors(bound), []int{0, 3})
	}
}

func TestGreatestArmsAsTheDocumentSays(t *testing.T) {
	wantedLists(func(f impl.Flag, list []int) {
		checkGreatest(t, f, list, plainGreatest(plainMask(f.Defs), list)...)
	})
}

// membersCase is a list of names with the members that they leave out.
type membersCase struct{ list, want []string }

func TestMissedMembers(t *testing.T) {
	for _, k := range []membersCase{
		{nil, []string{"red", "blue", "off"}},
		{[]string{}, []string{"red", "blue", "off"}},
		{[]string{"red"}, []string{"blue", "off"}},
		// Other names are names of their member.
		{[]string{"rot"}, []string{"blue", "off"}},
		{[]string{"rouge", "red"}, []string{"blue", "off"}},
		{[]string{"bleu"}, []string{"red", "off"}},
		{[]string{"off"}, []string{"red", "blue"}},
		// Names twice.
		{[]string{"off", "off"}, []string{"red", "blue"}},
		{[]string{"rot", "off", "rot"}, []string{"blue"}},
		{[]string{"off", "bleu"}, []string{"red"}},
		{[]string{"off", "bleu", "rot"}, nil},
		{[]string{"bleu", "blue", "rouge", "rot", "red", "off"}, nil},
		{slices.Repeat([]string{"bleu", "rot"}, 500), []string{"off"}},
		// Names that the enumeration does not have.
		{[]string{"x"}, nil}, {[]string{"x", "rot"}, nil}, {[]string{"rot", "x"}, nil}, {[]string{"off", "x", "bleu"}, nil},
		{[]string{""}, nil}, {[]string{"re"}, nil}, {[]string{"redd"}, nil}, {[]string{"Red"}, nil}, {[]string{"3"}, nil}, {[]string{"red", ""}, nil},
	} {
		if names := impl.MissedMembers(colours(), k.list); !slices.Equal(names, k.want) {
			t.Errorf("MissedMembers(%q) = %q", k.list, names)
		}
	}
	for _, s := range append(oddNames, "a") {
		if names := impl.MissedMembers(impl.Enum{}, []string{s}); names != nil {
			t.Errorf("MissedMembers of an enumeration without names and %q = %q", s, names)
		}
	}
	if names := impl.MissedMembers(impl.Enum{}, nil); names != nil {
		t.Errorf("MissedMembers of nothing = %q", names)
	}
	if names := impl.MissedMembers(fullEnum(), nil); !slices.Equal(names, namesOf(fullEnum())) {
		t.Errorf("MissedMembers of MaxItems names = %q", names)
	}
	if names := impl.MissedMembers(fullEnum(), []string{"l", "a"}); !slices.Equal(names, namesOf(fullEnum())[1:11]) {
		t.Errorf("MissedMembers of MaxItems names = %q", names)
	}
}

func TestMissedMembersAsTheDocumentSays(t *testing.T) {
	some, none := 0, 0
	memberLists(func(e impl.Enum, list []string) {
		want := plainMissedMembers(e, list)
		if names := impl.MissedMembers(e, list); !slices.Equal(names, want) {
			t.Fatalf("MissedMembers(%v, %q) = %q", e, list, names)
		}
		if len(want) > 0 {
			some++
		} else {
			none++
		}
		if names := impl.MissedMembers(e, append(list, "zz")); names != nil {
			t.Fatalf("MissedMembers(%v) of a name that it does not have = %q", e, names)
		}
	})
	if some < 500 || none < 500 {
		t.Errorf("only %d lists miss members, %d do not", some, none)
	}
}
