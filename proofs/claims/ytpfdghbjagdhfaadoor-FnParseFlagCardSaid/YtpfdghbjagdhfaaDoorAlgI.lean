import Derived.Test.YtpfdghbjagdhfaaDoorBaseE
namespace Go.Proofs.YtpfdghbjagdhfaaDoor
open Go.RowKit Go.Maps
set_option linter.unusedVariables false
set_option maxRecDepth 100000

set_option maxHeartbeats 400000 in
theorem bsLess_v (a b : Nat) (w : World) (ha : a < 4096) (hb : b < 4096) {v : Nat} (hv : nl a b = v) :
    Calls Tryd.prog 148 #[.int .i64 a, .int .i64 b] w fun e w' => e = .returned (.int .i64 v) ∧ w = w' := by
  have h := i64_andNot_nat a b (by omega) (by omega)
  rw [hv] at h
  clear hv
  go_enter Tryd.func148, Tryd.ntmps148
  go_wp2
  go_ret
  exact ⟨rfl, rfl⟩
set_option maxHeartbeats 400000 in
theorem bsHas_v (a b : Nat) (w : World) (ha : a < 4096) (hb : b < 4096) {v : Bool} (hv : decide (nl b a = 0) = v) :
    Calls Tryd.prog 123 #[.int .i64 a, .int .i64 b] w fun e w' => e = .returned (.bool v) ∧ w = w' := by
  subst hv
  obtain ⟨z, hz⟩ : ∃ z, nl b a = z := ⟨_, rfl⟩
  rw [hz]
  have HZ := Lib.hid hz
  clear hz
  go_enter Tryd.func123, Tryd.ntmps123
  go_wp2_with (go_at_call 148; refine (bsLess_v b a _ hb ha HZ.out).mono ?_; rintro e w' ⟨rfl, rfl⟩)
  go_ret
  exact ⟨ret_bool (by rw [Bool.eq_iff_iff]; simp), rfl⟩
end Go.Proofs.YtpfdghbjagdhfaaDoor
