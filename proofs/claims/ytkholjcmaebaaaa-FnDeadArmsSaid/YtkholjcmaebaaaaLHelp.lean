import Derived.Test.YtkholjcmaebaaaaBaseB
import Derived.Test.YtkholjcmaebaaaaOthers
import Derived.Test.YtkholjcmaebaaaaUniq
namespace Go.Proofs.Ytkholjcmaebaaaa
open Go.RowKit
set_option linter.unusedVariables false
set_option maxRecDepth 100000

/-! ### what the laws ask of lists -/
def hT (s t : ByteArray) : Bool := t.toList == s.toList
theorem hT_iff {s t : ByteArray} : hT s t = true ↔ t = s := by
  unfold hT; rw [beq_iff_eq]; exact ⟨nm_inj, fun h => by rw [h]⟩



set_option maxHeartbeats 1000000 in
theorem equalInts_any (ss : List Int) (A A2 : Option Addr) (c c2 n n2 : Nat) (w : World) (hr : SI w w.heap.size A n c ss) (hr2 : SI w w.heap.size A2 n2 c2 ss) :
    Calls Try.prog 33 #[.slice A n c, .slice A2 n2 c2] w fun e w' => e = .returned (.bool true) ∧ Below w.heap.size w w' := by
  obtain rfl := hr.len
  obtain rfl := hr2.len
  have hl := hr.max
  have hl2 := hr.cap
  unfold maxLen at hl
  have HR := Lib.hid hr
  have HR2 := Lib.hid hr2
  clear hr hr2
  go_enter Try.func33, Try.ntmps33
  go_wp2
  go_loopw [5] (fun i wr => ∃ (k : Nat), k ≤ ss.length ∧ i = .int .i64 k ∧ Hid (Below w.heap.size w wr)) (fun i _ => ss.length - (intOf i).toNat)
  case atStart => exact ⟨0, Nat.zero_le _, rfl, Lib.hid (Below.refl _ _)⟩
  case round =>
    obtain ⟨k, hk, rfl, hbel⟩ := hrel
    by_cases hlt : k < ss.length
    · obtain ⟨b, o, rfl, hb, c1⟩ := (HR.out.below hbel.out).at_ hlt
      obtain ⟨b', o', rfl, hb', c1'⟩ := (HR2.out.below hbel.out).at_ hlt
      have hi1 : (k : Int) < (ss.length : Int) := by omega
      have hi0 : (0 : Int) ≤ (k : Int) := by omega
      go_wp2
      go_quiet (fail)
      go_wp2
      go_roundw
      case rel => exact ⟨k + 1, by omega, by go_num, Lib.hid (below_drewN hbel.out _)⟩
      case measure => simp [intOf]; omega
    · obtain rfl : k = ss.length := by omega
      go_wp2
      go_ret
      exact ⟨rfl, hbel.out⟩

set_option maxHeartbeats 1000000 in
theorem ascends_any (ss : List Int) (A : Option Addr) (c n : Nat) (w : World) (hr : SI w w.heap.size A n c ss) (hup : ∀ i (h : i + 1 < ss.length), ss[i] < ss[i + 1]) :
    Calls Try.prog 36 #[.slice A n c] w fun e w' => e = .returned (.bool true) ∧ Below w.heap.size w w' := by
  obtain rfl := hr.len
  have hl := hr.max
  have hl2 := hr.cap
  unfold maxLen at hl
  have HR := Lib.hid hr
  have HU := Lib.hid hup
  clear hr hup
  go_enter Try.func36, Try.ntmps36
  go_wp2
  go_loopw [3] (fun i wr => ∃ (k : Nat), (k = 0 ∨ k + 1 ≤ ss.length) ∧ i = .int .i64 ((k : Int) + 1) ∧ Hid (Below w.heap.size w wr)) (fun i _ => ss.length + 1 - (intOf i).toNat)
  case atStart => exact ⟨0, .inl rfl, rfl, Lib.hid (Below.refl _ _)⟩
  case round =>
    obtain ⟨k, hk, rfl, hbel⟩ := hrel
    by_cases hlt : k + 1 < ss.length
    · obtain ⟨b, o, rfl, hb, c1⟩ := (HR.out.below hbel.out).at_ hlt
      obtain ⟨b', o', hA, hb', c2⟩ := (HR.out.below hbel.out).at_ (show k < ss.length by omega)
      injection hA with hA
      injection hA with hA1 hA2
      subst hA1 hA2
      have hu := HU.out k hlt
      have hi1 : (k : Int) + 1 < (ss.length : Int) := by omega
      have hi0 : (0 : Int) ≤ (k : Int) := by omega
      go_wp2
      go_quiet (fail)
      go_wp2
      go_roundw
      case rel => exact ⟨k + 1, by omega, by go_num, Lib.hid (below_drewN hbel.out _)⟩
      case measure => simp [intOf]; omega
    · go_wp2
      go_ret
      exact ⟨rfl, hbel.out⟩
end Go.Proofs.Ytkholjcmaebaaaa
