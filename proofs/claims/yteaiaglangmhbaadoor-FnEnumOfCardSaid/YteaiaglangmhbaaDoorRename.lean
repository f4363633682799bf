import Derived.Test.YteaiaglangmhbaaDoorDrop
import Derived.Test.YteaiaglangmhbaaDoorBaseB
namespace Go.Proofs.YteaiaglangmhbaaDoor
open Go.RowKit
set_option linter.unusedVariables false
set_option maxRecDepth 100000

/-- ds with another name for s, or none. -/
def mRename (ds : List D) (s to : ByteArray) : Option (List D) :=
  if vEnum ds then (match ds[(fidx (isNm s) ds).toNat]? with | some d => if fidx (isNm s) ds < 0 then none else chkO (rep ds (fidx (isNm s) ds).toNat [⟨to, d.val⟩]) | none => none) else none
theorem mRename_no {ds : List D} {s to : ByteArray} (h : vEnum ds = false ∨ fidx (isNm s) ds < 0) : mRename ds s to = none := by
  unfold mRename
  rcases h with h | h
  · rw [h]; rfl
  · split
    · split
      · first | rw [if_pos h] | rfl
      · rfl
    · rfl
theorem mRename_yes {ds : List D} {s to : ByteArray} {k : Nat} (h : vEnum ds = true) (hk : k < ds.length) (hx : fidx (isNm s) ds = (k : Int)) : mRename ds s to = chkO (rep ds k [⟨to, ds[k].val⟩]) := by
  unfold mRename
  rw [if_pos h, hx]
  have : ds[(k : Int).toNat]? = some ds[k] := by simp [hk]
  rw [this]
  simp only
  rw [if_neg (show ¬ ((k : Int) < 0) by omega)]
  simp
theorem rep_mem {ds os : List D} {k : Nat} {x : D} (h : x ∈ rep ds k os) : x ∈ ds ∨ x ∈ os := by
  unfold rep at h
  simp only [List.mem_append] at h
  rcases h with h | h | h
  · exact .inl (List.mem_of_mem_take h)
  · exact .inr h
  · exact .inl (List.mem_of_mem_drop h)
theorem mRename_mem {ds : List D} {s to : ByteArray} {x : D} (h : x ∈ (mRename ds s to).getD []) : x ∈ ds ∨ (x.name = to ∧ ∃ y ∈ ds, x.val = y.val) := by
  unfold mRename at h
  split at h
  · split at h
    · rename_i d hd
      split at h
      · cases h
      · rcases rep_mem (chkO_mem h) with h | h
        · exact .inl h
        · simp at h
          subst h
          exact .inr ⟨rfl, d, List.mem_of_getElem? hd, rfl⟩
    · cases h
  · cases h
theorem mRename_len (ds : List D) (s to : ByteArray) : ((mRename ds s to).getD []).length ≤ 12 := by
  unfold mRename
  split
  · split
    · split
      · exact Nat.zero_le _
      · exact chkO_len _
    · exact Nat.zero_le _
  · exact Nat.zero_le _
theorem rep_set (ds : List D) (k : Nat) (h : k < ds.length) (d : D) : ds.set k d = rep ds k [d] := by
  unfold rep
  rw [List.set_eq_take_append_cons_drop, if_pos h]
  rfl

end Go.Proofs.YteaiaglangmhbaaDoor
