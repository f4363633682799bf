import Derived.Test.YteaiaglangmhbaaBaseE
namespace Go.Proofs.Yteaiaglangmhbaa
open Go.RowKit Go.Maps
set_option linter.unusedVariables false
set_option maxRecDepth 100000

set_option maxHeartbeats 400000 in
theorem bsOr_v (a b : Nat) (w : World) (ha : a < 4096) (hb : b < 4096) {v : Nat} (hv : a ||| b = v) :
    Calls Try.prog 76 #[.int .i64 a, .int .i64 b] w fun e w' => e = .returned (.int .i64 v) ∧ w = w' := by
  have h := i64_or_nat a b (by omega) (by omega)
  rw [hv] at h
  clear hv
  go_enter Try.func76, Try.ntmps76
  go_wp2
  go_ret
  exact ⟨rfl, rfl⟩
set_option maxHeartbeats 400000 in
theorem bsLess_v (a b : Nat) (w : World) (ha : a < 4096) (hb : b < 4096) {v : Nat} (hv : nl a b = v) :
    Calls Try.prog 112 #[.int .i64 a, .int .i64 b] w fun e w' => e = .returned (.int .i64 v) ∧ w = w' := by
  have h := i64_andNot_nat a b (by omega) (by omega)
  rw [hv] at h
  clear hv
  go_enter Try.func112, Try.ntmps112
  go_wp2
  go_ret
  exact ⟨rfl, rfl⟩
set_option maxHeartbeats 400000 in
theorem bsHas_v (a b : Nat) (w : World) (ha : a < 4096) (hb : b < 4096) {v : Bool} (hv : decide (nl b a = 0) = v) :
    Calls Try.prog 77 #[.int .i64 a, .int .i64 b] w fun e w' => e = .returned (.bool v) ∧ w = w' := by
  subst hv
  obtain ⟨z, hz⟩ : ∃ z, nl b a = z := ⟨_, rfl⟩
  rw [hz]
  have HZ := Lib.hid hz
  clear hz
  go_enter Try.func77, Try.ntmps77
  go_wp2_with (go_at_call 112; refine (bsLess_v b a _ hb ha HZ.out).mono ?_; rintro e w' ⟨rfl, rfl⟩)
  go_ret
  exact ⟨ret_bool (by rw [Bool.eq_iff_iff]; simp), rfl⟩
set_option maxHeartbeats 2000000 in
theorem implHas_v (ds : List D) (b : Int) (x y : Int) (A : Option Addr) (m c : Nat) (w : World) (hr : SD w w.heap.size A m c ds) (hn : m ≤ 1048576) {v : Bool} (hm : mHas ds b x y = v) :
    Calls Try.prog 38 #[.agg #[.slice A m c, .int .i64 b], .int .i64 x, .int .i64 y] w (fun e w' => e = .returned (.bool v) ∧ Below w.heap.size w w') := by
  subst hm
  have HF := Lib.hid (FB.start hr b)
  clear hr
  cases hx : mIsV ds b x
  · have HX := Lib.hid hx
    have HM : Hid (mHas ds b x y = false) := Lib.hid (by unfold mHas mTwo; rw [hx]; rfl)
    clear hx
    go_enter Try.func38, Try.ntmps38
    go_wp2_with (go_at_call 36; refine (implIsV_v ds b x _ _ _ _ HF.out.sd hn HX.out).mono ?_; rintro e w' ⟨rfl, hb⟩)
    go_ret
    exact ⟨by rw [HM.out]; first | done | rfl, HF.out.after hb⟩
  cases hy : mIsV ds b y
  · have HX := Lib.hid hx
    have HY := Lib.hid hy
    have HM : Hid (mHas ds b x y = false) := Lib.hid (by unfold mHas mTwo; rw [hx, hy]; rfl)
    clear hx hy
    go_enter Try.func38, Try.ntmps38
    go_wp2_with fail
    refine (implIsV_v ds b x _ _ _ _ HF.out.sd hn HX.out).mono ?_
    rintro e w1 ⟨rfl, hb⟩
    have HF1 := Lib.hid (HF.out.call hb)
    have c0 := HF1.out.c0
    have c1 := HF1.out.c1
    clear hb HF
    go_wp2_with fail
    refine (implIsV_v ds b y _ _ _ _ HF1.out.sd hn HY.out).mono ?_
    rintro e w2 ⟨rfl, hb⟩
    have HB2 := Lib.hid (HF1.out.after hb)
    clear hb
    go_wp2
    go_ret
    exact ⟨by rw [HM.out]; first | done | rfl, HB2.out⟩
  obtain ⟨p, rfl, hp⟩ := mIsV_nat hx
  obtain ⟨q, rfl, hq⟩ := mIsV_nat hy
  have HX := Lib.hid hx
  have HY := Lib.hid hy
  obtain ⟨v, hv⟩ : ∃ v, decide (nl q p = 0) = v := ⟨_, rfl⟩
  have HM : Hid (mHas ds b p q = v) := Lib.hid (by unfold mHas mTwo; rw [hx, hy, Bool.and_self, Bool.true_and, Int.toNat_natCast, Int.toNat_natCast, hv])
  have HV := Lib.hid hv
  clear hx hy hv
  go_enter Try.func38, Try.ntmps38
  go_wp2_with fail
  refine (implIsV_v ds b p _ _ _ _ HF.out.sd hn HX.out).mono ?_
  rintro e w1 ⟨rfl, hb⟩
  have HF1 := Lib.hid (HF.out.call hb)
  have c0 := HF1.out.c0
  have c1 := HF1.out.c1
  clear hb HF
  go_wp2_with fail
  refine (implIsV_v ds b q _ _ _ _ HF1.out.sd hn HY.out).mono ?_
  rintro e w2 ⟨rfl, hb⟩
  have HF2 := Lib.hid (HF1.out.call hb)
  have d0 := HF2.out.c0
  have d1 := HF2.out.c1
  clear hb HF1 c0 c1
  go_wp2_with (go_at_call 77; refine (bsHas_v p q _ hp hq HV.out).mono ?_; rintro e w3 ⟨rfl, rfl⟩)
  go_ret
  exact ⟨by rw [HM.out]; first | done | rfl, HF2.out.bel⟩

set_option maxHeartbeats 2000000 in
theorem implCount_v (ds : List D) (b : Int) (x : Int) (A : Option Addr) (m c : Nat) (w : World) (hr : SD w w.heap.size A m c ds) (hn : m ≤ 1048576) {r : Int} (hm : mCount ds b x = r) :
    Calls Try.prog 42 #[.agg #[.slice A m c, .int .i64 b], .int .i64 x] w (fun e w' => e = .returned (.int .i64 r) ∧ Below w.heap.size w w') := by
  subst hm
  have HF := Lib.hid (FB.start hr b)
  clear hr
  cases hv : mIsV ds b x
  · have HV := Lib.hid hv
    have HM : Hid (mCount ds b x = -1) := Lib.hid (if_no hv)
    clear hv
    go_enter Try.func42, Try.ntmps42
    go_wp2_with (go_at_call 36; refine (implIsV_v ds b x _ _ _ _ HF.out.sd hn HV.out).mono ?_; rintro e w' ⟨rfl, hb⟩)
    go_ret
    exact ⟨by rw [HM.out]; first | done | rfl, HF.out.after hb⟩
  obtain ⟨p, rfl, hp⟩ := mIsV_nat hv
  have HV := Lib.hid hv
  obtain ⟨r, hr⟩ : ∃ r, popc p = r := ⟨_, rfl⟩
  have HM : Hid (mCount ds b p = (r : Int)) := Lib.hid (by unfold mCount; rw [hv, if_pos rfl, Int.toNat_natCast, hr])
  have HR := Lib.hid hr
  have hu : IntKind.u64.wrap (p : Int) = (p : Int) := by rw [IntKind.wrap_u64]; omega
  clear hv hr
  go_enter Try.func42, Try.ntmps42
  go_wp2_with fail
  refine (implIsV_v ds b p _ _ _ _ HF.out.sd hn HV.out).mono ?_
  rintro e w1 ⟨rfl, hb⟩
  have HF1 := Lib.hid (HF.out.call hb)
  have c0 := HF1.out.c0
  have c1 := HF1.out.c1
  clear hb HF
  go_wp2_with fail
  refine (ones_v p _ hp HR.out).mono ?_
  rintro e w2 ⟨rfl, rfl⟩
  go_wp2
  go_ret
  exact ⟨by rw [HM.out]; first | done | rfl, HF1.out.bel⟩

end Go.Proofs.Yteaiaglangmhbaa
