import Derived.Test.YtpmanbmhbfnefaaBaseE
namespace Go.Proofs.Ytpmanbmhbfnefaa
open Go.RowKit Go.Maps
set_option linter.unusedVariables false
set_option maxRecDepth 100000

set_option maxHeartbeats 400000 in
theorem bsLess_v (a b : Nat) (w : World) (ha : a < 4096) (hb : b < 4096) {v : Nat} (hv : nl a b = v) :
    Calls Try.prog 102 #[.int .i64 a, .int .i64 b] w fun e w' => e = .returned (.int .i64 v) ∧ w = w' := by
  have h := i64_andNot_nat a b (by omega) (by omega)
  rw [hv] at h
  clear hv
  go_enter Try.func102, Try.ntmps102
  go_wp2
  go_ret
  exact ⟨rfl, rfl⟩
set_option maxHeartbeats 400000 in
theorem bsHas_v (a b : Nat) (w : World) (ha : a < 4096) (hb : b < 4096) {v : Bool} (hv : decide (nl b a = 0) = v) :
    Calls Try.prog 73 #[.int .i64 a, .int .i64 b] w fun e w' => e = .returned (.bool v) ∧ w = w' := by
  subst hv
  obtain ⟨z, hz⟩ : ∃ z, nl b a = z := ⟨_, rfl⟩
  rw [hz]
  have HZ := Lib.hid hz
  clear hz
  go_enter Try.func73, Try.ntmps73
  go_wp2_with (go_at_call 102; refine (bsLess_v b a _ hb ha HZ.out).mono ?_; rintro e w' ⟨rfl, rfl⟩)
  go_ret
  exact ⟨ret_bool (by rw [Bool.eq_iff_iff]; simp), rfl⟩
set_option maxHeartbeats 2000000 in
theorem implCount_v (ds : List D) (b : Int) (x : Int) (A : Option Addr) (m c : Nat) (w : World) (hr : SD w w.heap.size A m c ds) (hn : m ≤ 1048576) {r : Int} (hm : mCount ds b x = r) :
    Calls Try.prog 72 #[.agg #[.slice A m c, .int .i64 b], .int .i64 x] w (fun e w' => e = .returned (.int .i64 r) ∧ Below w.heap.size w w') := by
  subst hm
  have HF := Lib.hid (FB.start hr b)
  clear hr
  cases hv : mIsV ds b x
  · have HV := Lib.hid hv
    have HM : Hid (mCount ds b x = -1) := Lib.hid (if_no hv)
    clear hv
    go_enter Try.func72, Try.ntmps72
    go_wp2_with (go_at_call 81; refine (implIsV_v ds b x _ _ _ _ HF.out.sd hn HV.out).mono ?_; rintro e w' ⟨rfl, hb⟩)
    go_ret
    exact ⟨by rw [HM.out]; first | done | rfl, HF.out.after hb⟩
  obtain ⟨p, rfl, hp⟩ := mIsV_nat hv
  have HV := Lib.hid hv
  obtain ⟨r, hr⟩ : ∃ r, popc p = r := ⟨_, rfl⟩
  have HM : Hid (mCount ds b p = (r : Int)) := Lib.hid (by unfold mCount; rw [hv, if_pos rfl, Int.toNat_natCast, hr])
  have HR := Lib.hid hr
  have hu : IntKind.u64.wrap (p : Int) = (p : Int) := by rw [IntKind.wrap_u64]; omega
  clear hv hr
  go_enter Try.func72, Try.ntmps72
  go_wp2_with fail
  refine (implIsV_v ds b p _ _ _ _ HF.out.sd hn HV.out).mono ?_
  rintro e w1 ⟨rfl, hb⟩
  have HF1 := Lib.hid (HF.out.call hb)
  have c0 := HF1.out.c0
  have c1 := HF1.out.c1
  clear hb HF
  go_wp2_with fail
  refine (ones_v p _ hp HR.out).mono ?_
  rintro e w2 ⟨rfl, rfl⟩
  go_wp2
  go_ret
  exact ⟨by rw [HM.out]; first | done | rfl, HF1.out.bel⟩

end Go.Proofs.Ytpmanbmhbfnefaa
