import Derived.Test.YtbkfagncoekbkaaFlagS
namespace Go.Proofs.Ytbkfagncoekbkaa
open Go.RowKit Go.Maps
set_option linter.unusedVariables false
set_option maxRecDepth 100000

/-! ### the model's MakeValue, IsValue, WithBound -/
theorem specMade_v (ds : List D) (b n : Int) (A : Option Addr) (m c : Nat) (w : World) (hr : SD w w.heap.size A m c ds) (hin : ∀ d ∈ ds, inR d) (hbb : 0 ≤ b ∧ b ≤ 3) (hn : inV n = true) {x y : Int} (hx : (mMade ds b n).1 = x) (hy : (mMade ds b n).2 = y) :
    Calls Try.prog 97 #[.agg #[.slice A m c, .int .i64 b], .int .i64 n] w fun e w' => e = .returned (.tuple #[.int .i64 x, .int .i64 y]) ∧ Below w.heap.size w w' := by
  subst hx hy
  unfold inV at hn
  simp at hn
  exact specMade_any ds b n A m c w hr hin hbb (by omega) (by omega)

set_option maxHeartbeats 1000000 in
theorem specMake_v (ds : List D) (b n : Int) (A : Option Addr) (m c : Nat) (w : World) (hr : SD w w.heap.size A m c ds) {x y : Int} (hx : (mValue ds b n).1 = x) (hy : (mValue ds b n).2 = y) :
    Calls Try.prog 38 #[.agg #[.slice A m c, .int .i64 b], .int .i64 n] w fun e w' => e = .returned (.tuple #[.int .i64 x, .int .i64 y]) ∧ Below w.heap.size w w' := by
  subst hx hy
  have HF := Lib.hid (FB.start hr b)
  clear hr
  cases hv : vFlag ds b
  · have HV := Lib.hid hv
    have HM : Hid (mValue ds b n = (0, 2)) := Lib.hid (by unfold mValue; rw [hv]; rfl)
    clear hv
    go_enter Try.func38, Try.ntmps38
    go_wp2_with (go_at_call 72; refine (specVF_v ds b _ _ _ _ HF.out.sd HV.out).mono ?_; rintro e w' ⟨rfl, hb⟩)
    go_ret2
    exact ⟨by rw [HM.out]; first | done | rfl, HF.out.after hb⟩
  · have HV := Lib.hid hv
    cases hn : inV n
    · have HM : Hid (mValue ds b n = (0, 2)) := Lib.hid (by unfold mValue; rw [hv, hn]; rfl)
      have HN := Lib.hid (show (decide ((-4096 : Int) ≤ n) && decide (n ≤ 4095)) = false from hn)
      clear hv hn
      go_enter Try.func38, Try.ntmps38
      go_wp2_with (first | (go_at_call 72; refine (specVF_v ds b _ _ _ _ HF.out.sd HV.out).mono ?_; rintro e w' ⟨rfl, hb⟩; have HB := Lib.hid hb; clear hb) | (go_at_call 96; refine (inRange_v _ _ _ _ HN.out).mono ?_; rintro e w' ⟨rfl, rfl⟩))
      go_ret2
      exact ⟨by rw [HM.out]; first | done | rfl, HF.out.after HB.out⟩
    · have HM : Hid (mValue ds b n = mMade ds b n) := Lib.hid (by unfold mValue; rw [hv, hn]; rfl)
      have HN := Lib.hid (show (decide ((-4096 : Int) ≤ n) && decide (n ≤ 4095)) = true from hn)
      have HNV := Lib.hid hn
      have HIN := Lib.hid (vFlag_in hv)
      have HBD := Lib.hid (vFlag_bound hv)
      rw [HM.out]
      generalize hx : (mMade ds b n).1 = x
      generalize hy : (mMade ds b n).2 = y
      have HX := Lib.hid hx
      have HY := Lib.hid hy
      clear hv hn hx hy
      go_enter Try.func38, Try.ntmps38
      go_wp2_with (first | (go_at_call 72; refine (specVF_v ds b _ _ _ _ HF.out.sd HV.out).mono ?_; rintro e w' ⟨rfl, hb⟩; have HF1 := Lib.hid (HF.out.call hb); have c0 := HF1.out.c0; have c1 := HF1.out.c1; clear hb) | (go_at_call 96; refine (inRange_v _ _ _ _ HN.out).mono ?_; rintro e w' ⟨rfl, rfl⟩) | (go_at_call 97; refine (specMade_v ds b n _ _ _ _ HF1.out.sd HIN.out HBD.out HNV.out HX.out HY.out).mono ?_; rintro e w2 ⟨rfl, hb⟩; have HB := Lib.hid (HF1.out.after hb); clear hb))
      go_ret2
      exact ⟨rfl, HB.out⟩

set_option maxHeartbeats 1000000 in
theorem specIsV_v (ds : List D) (b n : Int) (A : Option Addr) (m c : Nat) (w : World) (hr : SD w w.heap.size A m c ds) {v : Bool} (hm : mIsV ds b n = v) :
    Calls Try.prog 100 #[.agg #[.slice A m c, .int .i64 b], .int .i64 n] w fun e w' => e = .returned (.bool v) ∧ Below w.heap.size w w' := by
  subst hm
  have HF := Lib.hid (FB.start hr b)
  clear hr
  cases hv : vFlag ds b
  · have HV := Lib.hid hv
    have HM : Hid (mIsV ds b n = false) := Lib.hid (by unfold mIsV; rw [hv]; rfl)
    clear hv
    go_enter Try.func100, Try.ntmps100
    go_wp2_with (go_at_call 72; refine (specVF_v ds b _ _ _ _ HF.out.sd HV.out).mono ?_; rintro e w' ⟨rfl, hb⟩)
    go_ret
    exact ⟨by rw [HM.out]; first | done | rfl, HF.out.after hb⟩
  · have HV := Lib.hid hv
    cases hn : (decide (0 ≤ n) && decide (n ≤ 4095))
    · have HM : Hid (mIsV ds b n = false) := Lib.hid (by unfold mIsV; rw [hv, hn]; rfl)
      have HN := Lib.hid hn
      clear hv hn
      go_enter Try.func100, Try.ntmps100
      go_wp2_with (first | (go_at_call 72; refine (specVF_v ds b _ _ _ _ HF.out.sd HV.out).mono ?_; rintro e w' ⟨rfl, hb⟩; have HB := Lib.hid hb; clear hb) | (go_at_call 96; refine (inRange_v _ _ _ _ HN.out).mono ?_; rintro e w' ⟨rfl, rfl⟩))
      go_ret
      exact ⟨by rw [HM.out]; first | done | rfl, HF.out.after HB.out⟩
    · have HN := Lib.hid hn
      have hn2 : 0 ≤ n ∧ n ≤ 4095 := by simpa using hn
      by_cases h3 : b = 3
      · have HM : Hid (mIsV ds b n = true) := Lib.hid (by unfold mIsV; rw [hv, hn, decide_eq_true h3]; rfl)
        clear hv hn hn2
        subst h3
        go_enter Try.func100, Try.ntmps100
        go_wp2_with (first | (go_at_call 72; refine (specVF_v ds 3 _ _ _ _ HF.out.sd HV.out).mono ?_; rintro e w' ⟨rfl, hb⟩; have HF1 := Lib.hid (HF.out.call hb); have c0 := HF1.out.c0; have c1 := HF1.out.c1; clear hb) | (go_at_call 96; refine (inRange_v _ _ _ _ HN.out).mono ?_; rintro e w' ⟨rfl, rfl⟩))
        go_ret
        exact ⟨by rw [HM.out]; first | done | rfl, HF1.out.bel⟩
      · obtain ⟨k, rfl⟩ : ∃ k : Nat, n = k := ⟨n.toNat, by omega⟩
        have hk4 : k < 4096 := by omega
        have HIN := Lib.hid (vFlag_in hv)
        have h1 := mMask_lt12 HIN.out
        have HM : Hid (mIsV ds b k = decide (nl k (mMask ds) = 0)) := Lib.hid (by unfold mIsV; rw [hv, hn, decide_eq_false h3, Int.toNat_natCast]; rfl)
        generalize hx : mMask ds = x at *
        generalize hq : nl k x = q at *
        have HX := Lib.hid hx
        have HQ := Lib.hid hq
        clear hv hn hn2 hx hq
        go_enter Try.func100, Try.ntmps100
        go_wp2_with (first | (go_at_call 72; refine (specVF_v ds b _ _ _ _ HF.out.sd HV.out).mono ?_; rintro e w' ⟨rfl, hb⟩; have HF1 := Lib.hid (HF.out.call hb); have c0 := HF1.out.c0; have c1 := HF1.out.c1; clear hb) | (go_at_call 96; refine (inRange_v _ _ _ _ HN.out).mono ?_; rintro e w' ⟨rfl, rfl⟩) | (go_at_call 131; refine (mask_any ds _ _ _ _ HF1.out.sd HIN.out HX.out).mono ?_; rintro e w' ⟨rfl, rfl⟩) | (go_at_call 130; refine (less_any k x _ hk4 h1 HQ.out).mono ?_; rintro e w' ⟨rfl, rfl⟩))
        go_ret
        exact ⟨by rw [HM.out]; exact ret_bool (by rw [Bool.eq_iff_iff]; simp [h3]), HF1.out.bel⟩

set_option maxHeartbeats 400000 in
theorem specIsV_any (ds : List D) (b n : Int) (A : Option Addr) (m c : Nat) (w : World) (hr : SD w w.heap.size A m c ds) :
    Calls Try.prog 42 #[.agg #[.slice A m c, .int .i64 b], .int .i64 n] w fun e w' => e = .returned (.bool (mIsV ds b n)) ∧ Below w.heap.size w w' := by
  have HF := Lib.hid (FB.start hr b)
  clear hr
  generalize hx : mIsV ds b n = v
  have HX := Lib.hid hx
  clear hx
  go_enter Try.func42, Try.ntmps42
  go_wp2_with (go_at_call 100; refine (specIsV_v ds b n _ _ _ _ HF.out.sd HX.out).mono ?_; rintro e w' ⟨rfl, hb⟩)
  go_ret
  exact ⟨rfl, HF.out.after hb⟩
end Go.Proofs.Ytbkfagncoekbkaa
