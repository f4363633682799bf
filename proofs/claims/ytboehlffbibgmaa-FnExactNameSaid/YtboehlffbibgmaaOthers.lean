import Derived.Test.YtboehlffbibgmaaBaseB
namespace Go.Proofs.Ytboehlffbibgmaa
open Go.RowKit Go.Maps
set_option linter.unusedVariables false
set_option maxRecDepth 100000

/-- The names among the first k definitions that have the value v, the one at j left out. -/
def othTo (ds : List D) (v : Int) (j : Nat) : Nat → List ByteArray
  | 0 => []
  | k + 1 => othTo ds v j k ++ (match ds[k]? with | some d => if isVal v d && k != j then [d.name] else [] | none => [])
theorem othTo_succ (ds : List D) (v : Int) (j k : Nat) (h : k < ds.length) : othTo ds v j (k + 1) = othTo ds v j k ++ if isVal v ds[k] && k != j then [ds[k].name] else [] := by
  show othTo ds v j k ++ _ = _
  rw [List.getElem?_eq_getElem h]
theorem othTo_len (ds : List D) (v : Int) (j k : Nat) : (othTo ds v j k).length ≤ k := by
  induction k with
  | zero => exact Nat.le_refl _
  | succ k ih =>
    unfold othTo
    rw [List.length_append]
    have : (match ds[k]? with | some d => if isVal v d && k != j then [d.name] else [] | none => ([] : List ByteArray)).length ≤ 1 := by
      split
      · split <;> simp
      · simp
    omega
theorem othTo_in (ds : List D) (v : Int) (j k : Nat) : ∀ t ∈ othTo ds v j k, ∃ d ∈ ds, d.name = t := by
  induction k with
  | zero => intro t h; cases h
  | succ k ih =>
    intro t h
    unfold othTo at h
    rcases List.mem_append.1 h with h | h
    · exact ih t h
    · split at h
      · rename_i d e
        split at h
        · simp at h; exact ⟨d, List.mem_of_getElem? e, h.symm⟩
        · cases h
      · cases h
theorem othTo_first (ds : List D) (v : Int) (j : Nat) (hj : j < ds.length) (hn : noTo (isVal v) ds j) : othTo ds v j (j + 1) = [] := by
  have h0 : ∀ k, k ≤ j → othTo ds v j k = [] := by
    intro k
    induction k with
    | zero => intro _; rfl
    | succ k ih =>
      intro hk
      rw [othTo_succ ds v j k (by omega), ih (by omega), hn k (by omega) (by omega)]
      rfl
  rw [othTo_succ ds v j j hj, h0 j (Nat.le_refl _)]
  simp
/-- OtherNames of s. -/
def mOthers (ds : List D) (s : ByteArray) : List ByteArray :=
  if vEnum ds then (match ds[(fidx (isNm s) ds).toNat]? with | some d => if 0 ≤ fidx (isNm s) ds then othTo ds d.val (fidx (isVal d.val) ds).toNat ds.length else [] | none => []) else []
theorem mOthers_no {ds : List D} {s : ByteArray} (h : vEnum ds = false ∨ fidx (isNm s) ds < 0) : mOthers ds s = [] := by
  unfold mOthers
  rcases h with h | h
  · rw [h]; rfl
  · split
    · split
      · rw [if_neg (by omega)]
      · rfl
    · rfl
theorem mOthers_yes {ds : List D} {s : ByteArray} (hv : vEnum ds = true) (k : Nat) (hk : k < ds.length) (hx : fidx (isNm s) ds = k) (j : Nat) (hj : fidx (isVal ds[k].val) ds = j) : mOthers ds s = othTo ds ds[k].val j ds.length := by
  unfold mOthers
  rw [if_pos hv, hx]
  simp only [Int.toNat_natCast]
  rw [List.getElem?_eq_getElem hk]
  simp only []
  rw [if_pos (by omega), hj]
  rfl
theorem mOthers_ok {ds : List D} {s : ByteArray} (h : ∀ d ∈ ds, d.ok) : ∀ t ∈ mOthers ds s, t.size ≤ maxLen := by
  unfold mOthers
  split
  · split
    · split
      · intro t ht
        obtain ⟨d, hd, rfl⟩ := othTo_in _ _ _ _ t ht
        exact (h d hd).1
      · intro t ht; cases ht
    · intro t ht; cases ht
  · intro t ht; cases ht
theorem mOthers_len (ds : List D) (s : ByteArray) : (mOthers ds s).length ≤ 12 := by
  unfold mOthers
  split
  · rename_i hv
    have := vEnum_len hv
    split
    · split
      · exact Nat.le_trans (othTo_len _ _ _ _) (by omega)
      · simp
    · simp
  · simp

end Go.Proofs.Ytboehlffbibgmaa
