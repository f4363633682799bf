import Derived.Test.YtpmanbmhbfnefaaArmP
import Derived.Test.YtpmanbmhbfnefaaBaseD
import Derived.Test.YtpmanbmhbfnefaaCel
import Derived.BigQuiet
namespace Go.Proofs.Ytpmanbmhbfnefaa
open Go.RowKit Go.Maps
set_option linter.unusedVariables false
set_option maxRecDepth 100000

/-! ### the model's functions on bits, at any numbers -/
set_option maxHeartbeats 1000000 in
theorem both_w (a b : Int) (w : World) : Calls Try.prog 97 #[.int .i64 a, .int .i64 b] w fun e w' => (∃ r : Int, e = .returned (.int .i64 r) ∧ 0 ≤ r ∧ r ≤ 4096) ∧ w = w' := by
  go_enter Try.func97, Try.ntmps97
  go_wp2
  go_loop [5, 6] (fun s i => ∃ (k p q : Nat), k ≤ 12 ∧ 1 ≤ p ∧ p ≤ 4096 ∧ q < p ∧ i = .int .i64 p ∧ s = .int .i64 q ∧ Hid (p = 2 ^ k)) (fun _ i => 4096 - (intOf i).toNat)
  case atStart => exact ⟨0, 1, 0, by omega, by omega, by omega, by omega, rfl, rfl, Lib.hid rfl⟩
  case round =>
    obtain ⟨k, p, q, hk, hp1, hp2, hq1, rfl, rfl, hp⟩ := hrel
    by_cases h12 : k < 12
    · have hp3 : p ≤ 2048 := by rw [hp.out]; exact Nat.pow_le_pow_right (n := 2) (by decide) (show k ≤ 11 by omega)
      have HP2 : Hid (p * 2 = 2 ^ (k + 1)) := Lib.hid (by rw [hp.out, Nat.pow_succ])
      have hpz : ((p : Int) == 0) = false := by rw [beq_eq_false_iff_ne]; omega
      go_wp2
      all_goals
        go_round
        case rel => first | exact ⟨k + 1, p * 2, q + p, by omega, by omega, by omega, by omega, by go_num, by go_num, HP2⟩ | exact ⟨k + 1, p * 2, q, by omega, by omega, by omega, by omega, by go_num, rfl, HP2⟩
        case measure => simp [intOf]; omega
    · obtain rfl : k = 12 := by omega
      have hp4 : p = 4096 := hp.out
      have hp5 : (4095 : Int) < (p : Int) := by omega
      go_wp2
      go_ret
      exact ⟨⟨_, rfl, by omega, by omega⟩, rfl⟩

set_option maxHeartbeats 1000000 in
theorem either_w (a b : Int) (w : World) : Calls Try.prog 96 #[.int .i64 a, .int .i64 b] w fun e w' => (∃ r : Int, e = .returned (.int .i64 r)) ∧ w = w' := by
  go_enter Try.func96, Try.ntmps96
  go_wp2_with (go_at_call 97; refine (both_w a b _).mono ?_; rintro e w' ⟨⟨r, rfl, hr0, hr1⟩, rfl⟩)
  go_ret
  exact ⟨⟨_, rfl⟩, rfl⟩

set_option maxHeartbeats 1000000 in
theorem mask_w (ds : List D) (A : Option Addr) (n c : Nat) (w : World) (hr : SD w w.heap.size A n c ds) :
    Calls Try.prog 64 #[.slice A n c] w fun e w' => (∃ r : Int, e = .returned (.int .i64 r)) ∧ w = w' := by
  obtain rfl := hr.len
  have hl := hr.max
  have hl2 := hr.cap
  unfold maxLen at hl
  have HR := Lib.hid hr
  clear hr
  go_enter Try.func64, Try.ntmps64
  go_wp2
  go_loop [3, 4] (fun s i => ∃ (k : Nat) (q : Int), k ≤ ds.length ∧ i = .int .i64 k ∧ s = .int .i64 q) (fun _ i => ds.length - (intOf i).toNat)
  case atStart => exact ⟨0, 0, Nat.zero_le _, rfl, rfl⟩
  case round =>
    obtain ⟨k, q, hk, rfl, rfl⟩ := hrel
    by_cases hlt : k < ds.length
    · obtain ⟨b, o, rfl, hbb, c1, c2⟩ := HR.out.at_ hlt
      have hi1 : (k : Int) < (ds.length : Int) := by omega
      go_wp2_with (go_at_call 96; refine (either_w q _ _).mono ?_; rintro e w' ⟨⟨z, rfl⟩, rfl⟩)
      go_round
      case rel => exact ⟨k + 1, z, by omega, by go_num, rfl⟩
      case measure => simp [intOf]; omega
    · obtain rfl : k = ds.length := by omega
      go_wp2
      go_ret
      exact ⟨⟨_, rfl⟩, rfl⟩

set_option maxHeartbeats 1000000 in
theorem specMatches_v (p q n : Nat) (w : World) (hp : p < 4096) (hq : q < 4096) (hn : n < 4096) {v : Bool} (hv : matchN p q n = v) :
    Calls Try.prog 117 #[.agg #[.int .i64 p, .int .i64 q], .int .i64 n] w fun e w' => e = .returned (.bool v) ∧ Below w.heap.size w w' := by
  subst hv
  have HB0 : Hid (Below w.heap.size w (w.alloc (.cells #[.int .i64 p, .int .i64 q] 72))) := Lib.hid ((Below.refl _ _).alloc (Nat.le_refl _) _)
  obtain ⟨s1, h1⟩ : ∃ s, nl p n = s := ⟨_, rfl⟩
  obtain ⟨s2, h2⟩ : ∃ s, q &&& n = s := ⟨_, rfl⟩
  have hM : matchN p q n = (decide (s1 = 0) && decide (s2 = 0)) := by unfold matchN; rw [h1, Nat.and_comm n q, h2]
  have H1 := Lib.hid h1
  have H2 := Lib.hid h2
  clear h1 h2
  by_cases h10 : s1 = 0
  · subst h10
    have HM : Hid (matchN p q n = decide (s2 = 0)) := Lib.hid (by rw [hM]; simp)
    clear hM
    go_enter Try.func117, Try.ntmps117
    go_wp2_with (first | (go_at_call_of 68 p; refine (less_any p n _ hp hn H1.out).mono ?_; rintro e w' ⟨rfl, rfl⟩) | (go_at_call 97; refine (both_v q n _ hq hn H2.out).mono ?_; rintro e w' ⟨rfl, rfl⟩))
    go_ret
    exact ⟨ret_bool (by rw [HM.out, Bool.eq_iff_iff]; simp), HB0.out⟩
  · have e1 : ((s1 : Int) == 0) = false := by rw [beq_eq_false_iff_ne]; omega
    have HM : Hid (matchN p q n = false) := Lib.hid (by rw [hM, decide_eq_false h10]; rfl)
    clear hM
    go_enter Try.func117, Try.ntmps117
    go_wp2_with (first | (go_at_call_of 68 p; refine (less_any p n _ hp hn H1.out).mono ?_; rintro e w' ⟨rfl, rfl⟩))
    go_ret
    exact ⟨by rw [HM.out]; first | done | rfl, HB0.out⟩

end Go.Proofs.Ytpmanbmhbfnefaa
