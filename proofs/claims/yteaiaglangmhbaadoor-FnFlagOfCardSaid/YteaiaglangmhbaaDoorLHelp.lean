import Derived.Test.YteaiaglangmhbaaDoorBaseB
import Derived.Test.YteaiaglangmhbaaDoorBaseP
import Derived.Test.YteaiaglangmhbaaDoorUniq
namespace Go.Proofs.YteaiaglangmhbaaDoor
open Go.RowKit
set_option linter.unusedVariables false
set_option maxRecDepth 100000

/-! ### what the laws ask of lists -/
def hT (s t : ByteArray) : Bool := t.toList == s.toList
theorem hT_iff {s t : ByteArray} : hT s t = true ↔ t = s := by
  unfold hT; rw [beq_iff_eq]; exact ⟨nm_inj, fun h => by rw [h]⟩


set_option maxHeartbeats 1000000 in
theorem equalTexts_any (ss : List ByteArray) (A A2 : Option Addr) (c c2 n n2 : Nat) (w : World) (hr : SS w w.heap.size A n c ss) (hr2 : SS w w.heap.size A2 n2 c2 ss) :
    Calls Tryd.prog 22 #[.slice A n c, .slice A2 n2 c2] w fun e w' => e = .returned (.bool true) ∧ Below w.heap.size w w' := by
  obtain rfl := hr.len
  obtain rfl := hr2.len
  have hl := hr.max
  have hl2 := hr.cap
  unfold maxLen at hl
  have HR := Lib.hid hr
  have HR2 := Lib.hid hr2
  clear hr hr2
  go_enter Tryd.func22, Tryd.ntmps22
  go_wp2
  go_loopw [5] (fun i wr => ∃ (k : Nat), k ≤ ss.length ∧ i = .int .i64 k ∧ Hid (Below w.heap.size w wr)) (fun i _ => ss.length - (intOf i).toNat)
  case atStart => exact ⟨0, Nat.zero_le _, rfl, Lib.hid (Below.refl _ _)⟩
  case round =>
    obtain ⟨k, hk, rfl, hbel⟩ := hrel
    by_cases hlt : k < ss.length
    · obtain ⟨b, o, rfl, hb, c1⟩ := (HR.out.below hbel.out).at_ hlt
      obtain ⟨b', o', rfl, hb', c1'⟩ := (HR2.out.below hbel.out).at_ hlt
      have hi1 : (k : Int) < (ss.length : Int) := by omega
      have hi0 : (0 : Int) ≤ (k : Int) := by omega
      go_wp2
      go_quiet (fail)
      go_wp2
      go_roundw
      case rel => exact ⟨k + 1, by omega, by go_num, Lib.hid (below_drewN hbel.out _)⟩
      case measure => simp [intOf]; omega
    · obtain rfl : k = ss.length := by omega
      go_wp2
      go_ret
      exact ⟨rfl, hbel.out⟩


end Go.Proofs.YteaiaglangmhbaaDoor
