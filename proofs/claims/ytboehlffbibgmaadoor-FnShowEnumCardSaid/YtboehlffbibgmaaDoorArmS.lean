import Derived.Test.YtboehlffbibgmaaDoorArmP
import Derived.Test.YtboehlffbibgmaaDoorBaseD
import Derived.Test.YtboehlffbibgmaaDoorCel
import Derived.BigQuiet
namespace Go.Proofs.YtboehlffbibgmaaDoor
open Go.RowKit Go.Maps
set_option linter.unusedVariables false
set_option maxRecDepth 100000

/-! ### the model's functions on bits, at any numbers -/
set_option maxHeartbeats 1000000 in
theorem both_w (a b : Int) (w : World) : Calls Tryd.prog 84 #[.int .i64 a, .int .i64 b] w fun e w' => (∃ r : Int, e = .returned (.int .i64 r) ∧ 0 ≤ r ∧ r ≤ 4096) ∧ w = w' := by
  go_enter Tryd.func84, Tryd.ntmps84
  go_wp2
  go_loop [5, 6] (fun s i => ∃ (k p q : Nat), k ≤ 12 ∧ 1 ≤ p ∧ p ≤ 4096 ∧ q < p ∧ i = .int .i64 p ∧ s = .int .i64 q ∧ Hid (p = 2 ^ k)) (fun _ i => 4096 - (intOf i).toNat)
  case atStart => exact ⟨0, 1, 0, by omega, by omega, by omega, by omega, rfl, rfl, Lib.hid rfl⟩
  case round =>
    obtain ⟨k, p, q, hk, hp1, hp2, hq1, rfl, rfl, hp⟩ := hrel
    by_cases h12 : k < 12
    · have hp3 : p ≤ 2048 := by rw [hp.out]; exact Nat.pow_le_pow_right (n := 2) (by decide) (show k ≤ 11 by omega)
      have HP2 : Hid (p * 2 = 2 ^ (k + 1)) := Lib.hid (by rw [hp.out, Nat.pow_succ])
      have hpz : ((p : Int) == 0) = false := by rw [beq_eq_false_iff_ne]; omega
      go_wp2
      all_goals
        go_round
        case rel => first | exact ⟨k + 1, p * 2, q + p, by omega, by omega, by omega, by omega, by go_num, by go_num, HP2⟩ | exact ⟨k + 1, p * 2, q, by omega, by omega, by omega, by omega, by go_num, rfl, HP2⟩
        case measure => simp [intOf]; omega
    · obtain rfl : k = 12 := by omega
      have hp4 : p = 4096 := hp.out
      have hp5 : (4095 : Int) < (p : Int) := by omega
      go_wp2
      go_ret
      exact ⟨⟨_, rfl, by omega, by omega⟩, rfl⟩

set_option maxHeartbeats 1000000 in
theorem either_w (a b : Int) (w : World) : Calls Tryd.prog 70 #[.int .i64 a, .int .i64 b] w fun e w' => (∃ r : Int, e = .returned (.int .i64 r)) ∧ w = w' := by
  go_enter Tryd.func70, Tryd.ntmps70
  go_wp2_with (go_at_call 84; refine (both_w a b _).mono ?_; rintro e w' ⟨⟨r, rfl, hr0, hr1⟩, rfl⟩)
  go_ret
  exact ⟨⟨_, rfl⟩, rfl⟩

set_option maxHeartbeats 1000000 in
theorem mask_w (ds : List D) (A : Option Addr) (n c : Nat) (w : World) (hr : SD w w.heap.size A n c ds) :
    Calls Tryd.prog 44 #[.slice A n c] w fun e w' => (∃ r : Int, e = .returned (.int .i64 r)) ∧ w = w' := by
  obtain rfl := hr.len
  have hl := hr.max
  have hl2 := hr.cap
  unfold maxLen at hl
  have HR := Lib.hid hr
  clear hr
  go_enter Tryd.func44, Tryd.ntmps44
  go_wp2
  go_loop [3, 4] (fun s i => ∃ (k : Nat) (q : Int), k ≤ ds.length ∧ i = .int .i64 k ∧ s = .int .i64 q) (fun _ i => ds.length - (intOf i).toNat)
  case atStart => exact ⟨0, 0, Nat.zero_le _, rfl, rfl⟩
  case round =>
    obtain ⟨k, q, hk, rfl, rfl⟩ := hrel
    by_cases hlt : k < ds.length
    · obtain ⟨b, o, rfl, hbb, c1, c2⟩ := HR.out.at_ hlt
      have hi1 : (k : Int) < (ds.length : Int) := by omega
      go_wp2_with (go_at_call 70; refine (either_w q _ _).mono ?_; rintro e w' ⟨⟨z, rfl⟩, rfl⟩)
      go_round
      case rel => exact ⟨k + 1, z, by omega, by go_num, rfl⟩
      case measure => simp [intOf]; omega
    · obtain rfl : k = ds.length := by omega
      go_wp2
      go_ret
      exact ⟨⟨_, rfl⟩, rfl⟩

end Go.Proofs.YtboehlffbibgmaaDoor
