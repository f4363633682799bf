import Derived.Test.YtpmanbmhbfnefaaBaseM
import Derived.Test.YtpmanbmhbfnefaaBaseC
namespace Go.Proofs.Ytpmanbmhbfnefaa
open Go.RowKit
set_option linter.unusedVariables false
set_option maxRecDepth 100000

set_option maxHeartbeats 1000000 in
theorem isIn_any (ss : List Int) (z : Int) (A : Option Addr) (c n : Nat) (w : World) (hr : SI w w.heap.size A n c ss) {v : Bool} (hv : (ss.any fun t => t == z) = v) :
    Calls Try.prog 39 #[.slice A n c, .int .i64 z] w fun e w' => e = .returned (.bool v) ∧ Below w.heap.size w w' := by
  subst hv
  obtain rfl := hr.len
  have hl := hr.max
  have hl2 := hr.cap
  unfold maxLen at hl
  have HR := Lib.hid hr
  clear hr
  go_enter Try.func39, Try.ntmps39
  go_wp2
  go_loop [5] (fun i => ∃ k : Nat, k ≤ ss.length ∧ i = .int .i64 k ∧ Hid (((ss.take k).any fun t => t == z) = false)) (fun i => ss.length - (intOf i).toNat)
  case atStart => exact ⟨0, Nat.zero_le _, rfl, Lib.hid (by simp)⟩
  case round =>
    obtain ⟨k, hk, rfl, hok⟩ := hrel
    by_cases hlt : k < ss.length
    · obtain ⟨b, o, rfl, hb, c1⟩ := HR.out.at_ hlt
      cases hp : (ss[k] == z)
      · have HP := Lib.hid hp
        have hi1 : (k : Int) < (ss.length : Int) := by omega
        go_wp2
        go_round
        case rel => exact ⟨k + 1, by omega, by go_num, Lib.hid (by rw [any_take_succ _ _ _ hlt, hok.out, HP.out]; rfl)⟩
        case measure => simp [intOf]; omega
      · have HP := Lib.hid hp
        have hi1 : (k : Int) < (ss.length : Int) := by omega
        go_wp2
        go_ret
        exact ⟨ret_bool (List.any_eq_true.2 ⟨_, List.getElem_mem hlt, HP.out⟩).symm, Below.refl _ _⟩
    · obtain rfl : k = ss.length := by omega
      go_wp2
      go_ret
      have := hok.out
      rw [List.take_of_length_le (Nat.le_refl _)] at this
      exact ⟨ret_bool this.symm, Below.refl _ _⟩
end Go.Proofs.Ytpmanbmhbfnefaa
