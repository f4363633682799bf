import Derived.Test.YteaiaglangmhbaaDoorBaseC
import Derived.Test.YteaiaglangmhbaaDoorBaseB
namespace Go.Proofs.YteaiaglangmhbaaDoor
open Go.RowKit
set_option linter.unusedVariables false
set_option maxRecDepth 100000

/-- ValueOf a name that is there. -/
theorem implValue_at (ds : List D) (s : ByteArray) (A : Option Addr) (c n : Nat) (w : World) (hr : SD w w.heap.size A n c ds) (hv : vEnum ds = true) {v : Int} (h : ∃ k, ∃ hk : k < ds.length, fidx (isNm s) ds = (k : Int) ∧ ds[k].val = v) :
    Calls Tryd.prog 94 #[.agg #[.slice A n c], .string s] w fun e w' => e = .returned (.tuple #[.int .i64 v, .bool true]) ∧ Below w.heap.size w w' := by
  obtain ⟨k, hk, hx, rfl⟩ := h
  exact implValueOf_yes ds s A c n w hr hv k hk hx
/-- .. one that is not there. -/
theorem implValue_none (ds : List D) (s : ByteArray) (A : Option Addr) (c n : Nat) (w : World) (hr : SD w w.heap.size A n c ds) (hx : fidx (isNm s) ds < 0) :
    Calls Tryd.prog 94 #[.agg #[.slice A n c], .string s] w fun e w' => e = .returned (.tuple #[.int .i64 0, .bool false]) ∧ Below w.heap.size w w' :=
  implValueOf_no ds s A c n w hr rfl rfl (.inr hx)

set_option maxHeartbeats 1000000 in
theorem equalDefs_any (ds : List D) (A A2 : Option Addr) (c c2 n n2 : Nat) (w : World) (hr : SD w w.heap.size A n c ds) (hr2 : SD w w.heap.size A2 n2 c2 ds) :
    Calls Tryd.prog 41 #[.slice A n c, .slice A2 n2 c2] w fun e w' => e = .returned (.bool true) ∧ Below w.heap.size w w' := by
  obtain rfl := hr.len
  obtain rfl := hr2.len
  have hl := hr.max
  have hl2 := hr.cap
  unfold maxLen at hl
  have HR := Lib.hid hr
  have HR2 := Lib.hid hr2
  clear hr hr2
  go_enter Tryd.func41, Tryd.ntmps41
  go_wp2
  go_loopw [5] (fun i wr => ∃ (k : Nat), k ≤ ds.length ∧ i = .int .i64 k ∧ Hid (Below w.heap.size w wr)) (fun i _ => ds.length - (intOf i).toNat)
  case atStart => exact ⟨0, Nat.zero_le _, rfl, Lib.hid (Below.refl _ _)⟩
  case round =>
    obtain ⟨k, hk, rfl, hbel⟩ := hrel
    by_cases hlt : k < ds.length
    · obtain ⟨b, o, rfl, hb, c1, c2⟩ := (HR.out.below hbel.out).at_ hlt
      obtain ⟨b', o', rfl, hb', c1', c2'⟩ := (HR2.out.below hbel.out).at_ hlt
      have hi1 : (k : Int) < (ds.length : Int) := by omega
      have hi0 : (0 : Int) ≤ (k : Int) := by omega
      go_wp2
      go_quiet (fail)
      go_wp2
      go_roundw
      case rel => exact ⟨k + 1, by omega, by go_num, Lib.hid (below_drewN hbel.out _)⟩
      case measure => simp [intOf]; omega
    · obtain rfl : k = ds.length := by omega
      go_wp2
      go_ret
      exact ⟨rfl, hbel.out⟩
set_option maxHeartbeats 400000 in
theorem equalEnum_any (ds : List D) (A A2 : Option Addr) (c c2 n n2 : Nat) (w : World) (hr : SD w w.heap.size A n c ds) (hr2 : SD w w.heap.size A2 n2 c2 ds) :
    Calls Tryd.prog 16 #[.agg #[.slice A n c], .agg #[.slice A2 n2 c2]] w fun e w' => e = .returned (.bool true) ∧ Below w.heap.size w w' := by
  have HR := Lib.hid hr
  have HR2 := Lib.hid hr2
  clear hr hr2
  go_enter Tryd.func16, Tryd.ntmps16
  go_wp2_with (go_at_call 41; refine (equalDefs_any ds _ _ _ _ _ _ _ (((HR.out.alloc (Nat.le_refl _) _).alloc (by simp) _).call (by simp; omega)) (((HR2.out.alloc (Nat.le_refl _) _).alloc (by simp) _).call (by simp; omega))).mono ?_; rintro e w1 ⟨rfl, hb1⟩; have HB1 := Lib.hid hb1; clear hb1)
  go_ret
  exact ⟨rfl, (((Below.refl _ _).alloc (Nat.le_refl _) _).alloc (by simp) _).trans (HB1.out.mono (by simp; omega))⟩

end Go.Proofs.YteaiaglangmhbaaDoor
