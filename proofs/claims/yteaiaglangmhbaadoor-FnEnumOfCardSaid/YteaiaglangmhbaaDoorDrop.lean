import Derived.Test.YteaiaglangmhbaaDoorEdit2
namespace Go.Proofs.YteaiaglangmhbaaDoor
open Go.RowKit
set_option linter.unusedVariables false
set_option maxRecDepth 100000

theorem SD.none_ (w : World) (B : Nat) : SD w B none 0 0 [] := ⟨Rd.nil_, rfl, Nat.le_refl _, by unfold maxLen; omega, by simp⟩
/-- ds without the definition of s, or none. -/
def mDrop (ds : List D) (s : ByteArray) : Option (List D) := if vEnum ds then (if fidx (isNm s) ds < 0 then none else some (ers ds (fidx (isNm s) ds).toNat)) else none
theorem mDrop_no {ds : List D} {s : ByteArray} (h : vEnum ds = false ∨ fidx (isNm s) ds < 0) : mDrop ds s = none := by
  unfold mDrop
  rcases h with h | h
  · rw [h]; rfl
  · rw [if_pos h]; split <;> rfl
theorem mDrop_yes {ds : List D} {s : ByteArray} {k : Nat} (h : vEnum ds = true) (hx : fidx (isNm s) ds = (k : Int)) : mDrop ds s = some (ers ds k) := by
  unfold mDrop
  rw [if_pos h, hx, if_neg (show ¬ ((k : Int) < 0) by omega)]
  simp
theorem mDrop_mem {ds : List D} {s : ByteArray} {x : D} (h : x ∈ (mDrop ds s).getD []) : x ∈ ds := by
  unfold mDrop at h
  split at h
  · split at h
    · cases h
    · exact ers_mem h
  · cases h
theorem mDrop_len (ds : List D) (s : ByteArray) : ((mDrop ds s).getD []).length ≤ 12 := by
  unfold mDrop
  split
  · rename_i hv
    split
    · exact Nat.zero_le _
    · exact vEnum_len (vEnum_ers hv _)
  · exact Nat.zero_le _
theorem enumP_some {ds : List D} {w w' : World} {A : Option Addr} {n c : Nat} (hl : ds.length = n) (ho : w'.ownsRow w.heap.size 53 2 (.slice A n c) n (flat ds)) (hb : Below w.heap.size w w') : EnumP (some ds) w (.returned (.tuple #[.agg #[.slice A n c], .bool true])) w' := by
  subst hl
  exact ⟨A, c, rfl, ho, hb⟩
theorem chkO_yes {ds : List D} (h : vEnum ds = true) : chkO ds = some ds := by unfold chkO; rw [h]; rfl

end Go.Proofs.YteaiaglangmhbaaDoor
