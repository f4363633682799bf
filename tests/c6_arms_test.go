package tests

import (
	"math"
	"slices"
	"testing"

	"loop.example/namedflags/impl"
)

func TestConstantsOfChapter6(t *testing.T) {
	if impl.MaxArms != 10 || impl.MaxNumbers != 64 {
		t.Error("MaxArms or MaxNumbers has another value")
	}
}

func TestValidArm(t *testing.T) {
	for _, bound := range allBounds {
		// The named bits are 2, 4, 8, 64 and 256, of which 8 and 64 are named only together.
		for _, a := range []impl.Arm{{}, arm(334, 0), arm(0, 334), arm(2, 0), arm(0, 256), arm(6, 72), arm(72, 262), arm(8, 64), arm(64, 8), arm(2, 4)} {
			if !impl.ValidArm(doors(bound), a) {
				t.Errorf("ValidArm(%v, %v) = false", doors(bound), a)
			}
		}
		for _, a := range []impl.Arm{arm(1, 0), arm(0, 1), arm(335, 0), arm(0, 335), arm(512, 0), arm(0, 2048), arm(6, 16), arm(16, 6), arm(2, 2), arm(6, 4), arm(4, 6), arm(334, 334), arm(1, 1)} {
			if impl.ValidArm(doors(bound), a) {
				t.Errorf("ValidArm(%v, %v) = true", doors(bound), a)
			}
		}
		none := impl.Flag{Bound: bound}
		if !impl.ValidArm(none, impl.Arm{}) || impl.ValidArm(none, arm(1, 0)) || impl.ValidArm(none, arm(0, 1)) {
			t.Errorf("ValidArm(%v)", none)
		}
		full := fullFlag(bound)
		if !impl.ValidArm(full, arm(2730, 1365)) || !impl.ValidArm(full, arm(4095, 0)) || impl.ValidArm(full, arm(4096, 0)) || impl.ValidArm(full, arm(0, 4096)) {
			t.Errorf("ValidArm(%v)", full)
		}
	}
}

func TestMatchArm(t *testing.T) {
	for _, k := range []struct {
		a     impl.Arm
		n     int
		named bool // with each bound
		kept  bool // with BdKeep
	}{
		{arm(0, 0), 0, true, true}, {arm(0, 0), 334, true, true}, {arm(0, 0), 1, false, true}, {arm(0, 0), 4095, false, true},
		{arm(4, 0), 4, true, true}, {arm(4, 0), 6, true, true}, {arm(4, 0), 0, false, false}, {arm(4, 0), 330, false, false},
		{arm(0, 4), 0, true, true}, {arm(0, 4), 330, true, true}, {arm(0, 4), 4, false, false}, {arm(0, 4), 334, false, false},
		{arm(6, 0), 4, false, false}, {arm(6, 0), 2, false, false}, {arm(6, 0), 14, true, true},
		{arm(0, 6), 4, false, false}, {arm(0, 6), 2, false, false}, {arm(0, 6), 72, true, true},
		{arm(4, 2), 4, true, true}, {arm(4, 2), 6, false, false}, {arm(4, 2), 2, false, false}, {arm(4, 2), 332, true, true},
		{arm(4, 2), 5, false, true}, {arm(4, 2), 7, false, false}, {arm(4, 2), 4093, false, true}, {arm(4, 2), 4095, false, false}, {arm(4, 2), 513, false, false},
		{arm(8, 64), 8, true, true}, {arm(8, 64), 72, false, false}, {arm(8, 64), 9, false, true},
		{arm(0, 334), 0, true, true}, {arm(0, 334), 3761, false, true}, {arm(334, 0), 334, true, true}, {arm(334, 0), 4095, false, true},
	} {
		for _, bound := range allBounds {
			want := k.named
			if bound == impl.BdKeep {
				want = k.kept
			}
			if impl.MatchArm(doors(bound), k.a, k.n) != want {
				t.Errorf("MatchArm(%v, %v, %d) = %v", doors(bound), k.a, k.n, !want)
			}
		}
	}
}

func TestFirstArm(t *testing.T) {
	list := []impl.Arm{arm(4, 2), arm(2, 0), arm(0, 256), arm(6, 0), arm(64, 8)}
	for _, k := range []struct{ n, named, kept int }{
		{0, 2, 2}, {2, 1, 1}, {4, 0, 0}, {6, 1, 1}, {8, 2, 2}, {72, 2, 2}, {256, -1, -1}, {260, 0, 0}, {262, 1, 1}, {320, 4, 4}, {328, -1, -1}, {334, 1, 1},
		{1, -2, 2}, {5, -2, 0}, {257, -2, -1}, {321, -2, 4}, {512, -2, 2}, {768, -2, -1}, {4095, -2, 1},
		{4096, -2, -2}, {4100, -2, -2}, {-1, -2, -2}, {-4096, -2, -2}, {math.MinInt, -2, -2}, {math.MaxInt, -2, -2},
	} {
		for _, bound := range allBounds {
			want := k.named
			if bound == impl.BdKeep {
				want = k.kept
			}
			if i := impl.FirstArm(doors(bound), list, k.n); i != want {
				t.Errorf("FirstArm(%v, %v, %d) = %d", doors(bound), list, k.n, i)
			}
		}
	}
}

func TestFirstArmOfFewArms(t *testing.T) {
	for _, bound := range allBounds {
		f := doors(bound)
		for _, n := range []int{0, 2, 334} {
			if impl.FirstArm(f, nil, n) != -1 || impl.FirstArm(f, []impl.Arm{}, n) != -1 || impl.FirstArm(f, []impl.Arm{{}}, n) != 0 || impl.FirstArm(f, []impl.Arm{{}, {}}, n) != 0 {
				t.Errorf("FirstArm(%v) of %d and no arms, or arms for all", f, n)
			}
		}
		if impl.FirstArm(f, nil, 4096) != -2 || impl.FirstArm(f, nil, -1) != -2 {
			t.Errorf("FirstArm(%v) of no arms and numbers that are no values", f)
		}
		none := impl.Flag{Bound: bound}
		if impl.FirstArm(none, nil, 0) != -1 || impl.FirstArm(none, []impl.Arm{{}}, 0) != 0 {
			t.Errorf("FirstArm(%v)", none)
		}
	}
}

func TestFirstMissed(t *testing.T) {
	for _, k := range []struct {
		list []impl.Arm
		want int
	}{
		{nil, 0}, {[]impl.Arm{}, 0}, {[]impl.Arm{{}}, -1},
		{[]impl.Arm{arm(1, 0)}, 0}, {[]impl.Arm{arm(7, 0)}, 0}, {[]impl.Arm{arm(1, 0), arm(2, 0), arm(4, 0)}, 0},
		{[]impl.Arm{arm(0, 7)}, 1}, {[]impl.Arm{arm(0, 1)}, 1}, {[]impl.Arm{arm(0, 2)}, 2}, {[]impl.Arm{arm(0, 4)}, 4}, {[]impl.Arm{arm(0, 6)}, 2},
		{[]impl.Arm{arm(0, 1), arm(1, 4)}, 5}, {[]impl.Arm{arm(0, 4), arm(0, 2), arm(0, 1)}, 7}, {[]impl.Arm{arm(0, 1), arm(0, 1)}, 1},
		{[]impl.Arm{arm(7, 0), arm(0, 4), arm(4, 1)}, 5}, {[]impl.Arm{arm(4, 0), arm(0, 6), arm(3, 0)}, 2},
		// Arms that miss nothing only together.
		{[]impl.Arm{arm(0, 4), arm(4, 0)}, -1}, {[]impl.Arm{arm(2, 0), arm(0, 2)}, -1}, {[]impl.Arm{arm(1, 0), {}}, -1},
		{[]impl.Arm{arm(1, 2), arm(2, 4), arm(4, 1), arm(0, 7), arm(7, 0)}, -1},
		{[]impl.Arm{arm(1, 2), arm(2, 4), arm(4, 1), arm(0, 7)}, 7}, {[]impl.Arm{arm(1, 2), arm(2, 4), arm(4, 1), arm(7, 0)}, 0},
		{[]impl.Arm{arm(0, 7), arm(1, 6), arm(2, 5), arm(3, 4), arm(4, 3), arm(5, 2), arm(6, 1), arm(7, 0)}, -1},
		{[]impl.Arm{arm(7, 0), arm(6, 1), arm(5, 2), arm(3, 4), arm(2, 5), arm(1, 6), arm(0, 7)}, 4},
	} {
		for _, bound := range allBounds {
			if n := impl.FirstMissed(three(bound), k.list); n != k.want {
				t.Errorf("FirstMissed(%v, %v) = %d, want %d", three(bound), k.list, n, k.want)
			}
		}
	}
}

func TestFirstMissedHasOnlyNamedBits(t *testing.T) {
	for _, bound := range allBounds {
		for _, k := range []struct {
			list []impl.Arm
			want int
		}{
			{nil, 0}, {[]impl.Arm{{}}, -1}, {[]impl.Arm{arm(0, 334)}, 2}, {[]impl.Arm{arm(0, 4)}, 4}, {[]impl.Arm{arm(0, 12)}, 4},
			{[]impl.Arm{arm(0, 72)}, 8}, {[]impl.Arm{arm(0, 64)}, 64}, {[]impl.Arm{arm(0, 256)}, 256}, {[]impl.Arm{arm(0, 256), arm(0, 64)}, 320},
			{[]impl.Arm{arm(0, 2), arm(0, 4), arm(0, 8), arm(0, 64), arm(0, 256)}, 334},
			{[]impl.Arm{arm(0, 2), arm(0, 4), arm(0, 8), arm(0, 64), arm(0, 256), arm(334, 0)}, -1},
			{[]impl.Arm{arm(8, 0), arm(0, 8)}, -1}, {[]impl.Arm{arm(8, 64), arm(0, 8)}, 72},
		} {
			if n := impl.FirstMissed(doors(bound), k.list); n != k.want {
				t.Errorf("FirstMissed(%v, %v) = %d, want %d", doors(bound), k.list, n, k.want)
			}
		}
		none := impl.Flag{Bound: bound}
		if impl.FirstMissed(none, nil) != 0 || impl.FirstMissed(none, []impl.Arm{{}}) != -1 || impl.FirstMissed(none, []impl.Arm{arm(0, 1)}) != -2 {
			t.Errorf("FirstMissed(%v)", none)
		}
	}
}

// armsWithout returns an arm without each of the bits from one up, at most count of them.
func armsWithout(bit, count int) []impl.Arm {
	var list []impl.Arm
	for range count {
		list = append(list, arm(0, bit))
		bit *= 2
	}
	return list
}

func TestMaxArmsArmsAndOneMore(t *testing.T) {
	for _, bound := range allBounds {
		f := fullFlag(bound)
		list := armsWithout(1, impl.MaxArms)
		if n := impl.FirstMissed(f, list); n != 1023 {
			t.Errorf("FirstMissed of MaxArms arms = %d", n)
		}
		if n := impl.FirstMissed(f, armsWithout(4, impl.MaxArms)); n != 4092 {
			t.Errorf("FirstMissed of MaxArms arms = %d", n)
		}
		if i := impl.FirstArm(f, list, 511); i != 9 {
			t.Errorf("FirstArm of MaxArms arms = %d", i)
		}
		if dead := impl.DeadArms(f, list); dead != nil {
			t.Errorf("DeadArms of MaxArms arms = %v", dead)
		}
		if dead := impl.DeadArms(f, make([]impl.Arm, impl.MaxArms)); !slices.Equal(dead, []int{1, 2, 3, 4, 5, 6, 7, 8, 9}) {
			t.Errorf("DeadArms of MaxArms arms = %v", dead)
		}
		for _, more := range [][]impl.Arm{armsWithout(1, impl.MaxArms+1), make([]impl.Arm, impl.MaxArms+1), make([]impl.Arm, 1000)} {
			if impl.FirstMissed(f, more) != -2 || impl.FirstArm(f, more, 0) != -2 || impl.DeadArms(f, more) != nil {
				t.Errorf("%d arms: FirstMissed = %d, FirstArm = %d, DeadArms = %v", len(more), impl.FirstMissed(f, more), impl.FirstArm(f, more, 0), impl.DeadArms(f, more))
			}
		}
	}
}

func TestDeadArms(t *testing.T) {
	for _, k := range []struct {
		list []impl.Arm
		want []int
	}{
		{nil, nil}, {[]impl.Arm{}, nil}, {[]impl.Arm{{}}, nil}, {[]impl.Arm{arm(7, 0)}, nil}, {[]impl.Arm{arm(1, 0), {}}, nil},
		{[]impl.Arm{{}, arm(1, 0), arm(0, 1)}, []int{1, 2}}, {[]impl.Arm{arm(1, 0), arm(1, 2)}, []int{1}}, {[]impl.Arm{arm(1, 2), arm(1, 0)}, nil},
		// The same arm twice.
		{[]impl.Arm{{}, {}}, []int{1}}, {[]impl.Arm{arm(1, 0), arm(1, 0)}, []int{1}}, {[]impl.Arm{arm(1, 4), arm(2, 0), arm(1, 4)}, []int{2}}, {[]impl.Arm{arm(1, 4), arm(1, 4), arm(1, 4), arm(4, 0)}, []int{1, 2}},
		// Arms that others cover together.
		{[]impl.Arm{arm(1, 0), arm(0, 1), {}}, []int{2}}, {[]impl.Arm{arm(1, 0), arm(0, 1), arm(2, 0)}, []int{2}},
		{[]impl.Arm{arm(1, 2), arm(2, 4), arm(1, 4)}, []int{2}}, {[]impl.Arm{arm(1, 2), arm(1, 4), arm(2, 4)}, nil},
		{[]impl.Arm{arm(1, 2), arm(2, 4), arm(4, 1), arm(0, 7), arm(7, 0), {}}, []int{5}}, {[]impl.Arm{arm(1, 2), arm(2, 4), arm(4, 1), {}}, nil},
		{[]impl.Arm{arm(1, 0), arm(2, 1), arm(3, 0), arm(2, 0)}, []int{2, 3}}, {[]impl.Arm{arm(1, 0), arm(0, 1), arm(0, 7), arm(7, 0), {}}, []int{2, 3, 4}},
		{[]impl.Arm{arm(3, 0), arm(5, 0), arm(6, 0), arm(1, 6), arm(2, 5), arm(4, 3), arm(7, 0), arm(0, 7)}, []int{6}},
	} {
		for _, bound := range allBounds {
			if dead := impl.DeadArms(three(bound), k.list); !slices.Equal(dead, k.want) {
				t.Errorf("DeadArms(%v, %v) = %v, want %v", three(bound), k.list, dead, k.want)
			}
		}
	}
	for _, bound := range allBounds {
		if dead := impl.DeadArms(doors(bound), []impl.Arm{arm(8, 0), arm(0, 8), arm(64, 0)}); !slices.Equal(dead, []int{2}) {
			t.Errorf("DeadArms of bits that only a composed name has = %v", dead)
		}
		// With BdKeep there are values beyond the named bits, but they do not count.
		if dead := impl.DeadArms(flagOf(bound, 2), []impl.Arm{arm(2, 0), arm(0, 2), {}}); !slices.Equal(dead, []int{2}) {
			t.Errorf("DeadArms of the arm for all behind others = %v", dead)
		}
		if none := (impl.Flag{Bound: bound}); impl.DeadArms(none, nil) != nil || impl.DeadArms(none, []impl.Arm{{}}) != nil || !slices.Equal(impl.DeadArms(none, []impl.Arm{{}, {}}), []int{1}) {
			t.Errorf("DeadArms(%v)", none)
		}
	}
}

func TestArmsMeetAndArmCovers(t *testing.T) {
	for _, k := range []struct {
		a, b          impl.Arm
		meet          bool
		covers, under bool // that a covers b, and the other way round
	}{
		{arm(0, 0), arm(0, 0), true, true, true},
		{arm(0, 0), arm(4, 2), true, true, false},
		{arm(4, 2), arm(4, 2), true, true, true},
		{arm(4, 0), arm(4, 2), true, true, false},
		{arm(0, 2), arm(4, 2), true, true, false},
		{arm(4, 0), arm(6, 0), true, true, false},
		{arm(0, 4), arm(0, 6), true, true, false},
		{arm(4, 0), arm(0, 2), true, false, false},
		{arm(4, 0), arm(2, 0), true, false, false},
		{arm(0, 4), arm(0, 2), true, false, false},
		{arm(4, 8), arm(2, 64), true, false, false},
		{arm(6, 8), arm(4, 72), true, false, false},
		{arm(4, 0), arm(0, 4), false, false, false},
		{arm(4, 2), arm(2, 4), false, false, false},
		{arm(4, 2), arm(6, 0), false, false, false},
		{arm(0, 6), arm(4, 0), false, false, false},
		{arm(72, 0), arm(4, 8), false, false, false},
		{arm(334, 0), arm(0, 334), false, false, false},
		{arm(72, 0), arm(334, 0), true, true, false},
	} {
		for _, bound := range allBounds {
			f := doors(bound)
			if impl.ArmsMeet(f, k.a, k.b) != k.meet || impl.ArmsMeet(f, k.b, k.a) != k.meet {
				t.Errorf("ArmsMeet(%v, %v, %v) = %v, and %v", f, k.a, k.b, impl.ArmsMeet(f, k.a, k.b), impl.ArmsMeet(f, k.b, k.a))
			}
			if impl.ArmCovers(f, k.a, k.b) != k.covers || impl.ArmCovers(f, k.b, k.a) != k.under {
				t.Errorf("ArmCovers(%v, %v, %v) = %v, and %v", f, k.a, k.b, impl.ArmCovers(f, k.a, k.b), impl.ArmCovers(f, k.b, k.a))
			}
		}
	}
}

func TestCountArm(t *testing.T) {
	for _, bound := range allBounds {
		for _, k := range []struct {
			f    impl.Flag
			a    impl.Arm
			want int
		}{
			{doors(bound), arm(0, 0), 32}, {doors(bound), arm(2, 0), 16}, {doors(bound), arm(0, 256), 16}, {doors(bound), arm(4, 2), 8}, {doors(bound), arm(72, 0), 8},
			{doors(bound), arm(6, 72), 2}, {doors(bound), arm(334, 0), 1}, {doors(bound), arm(0, 334), 1}, {doors(bound), arm(72, 262), 1},
			{fullFlag(bound), arm(0, 0), 4096}, {fullFlag(bound), arm(1, 2), 1024}, {fullFlag(bound), arm(2730, 1365), 1},
			{impl.Flag{Bound: bound}, arm(0, 0), 1}, {flagOf(bound, 0, 0), arm(0, 0), 1}, {flagOf(bound, 4095), arm(0, 2048), 2048},
		} {
			if n := impl.CountArm(k.f, k.a); n != k.want {
				t.Errorf("CountArm(%v, %v) = %d", k.f, k.a, n)
			}
		}
	}
}
