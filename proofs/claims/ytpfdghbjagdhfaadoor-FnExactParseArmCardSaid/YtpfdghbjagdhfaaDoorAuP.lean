import Derived.Test.YtpfdghbjagdhfaaDoorAtP
import Derived.Test.YtpfdghbjagdhfaaDoorBaseD
namespace Go.Proofs.YtpfdghbjagdhfaaDoor
set_option linter.unusedVariables false

/-! ### arms that are read, step by step: no program in sight -/
theorem fnd_no {l : List D} {s : ByteArray} (h : noTo (isNm s) l l.length) : l.find? (isNm s) = none := by
  rw [List.find?_eq_none]
  intro d hd e
  obtain ⟨i, hi, rfl⟩ := List.mem_iff_getElem.1 hd
  have h2 := h i hi hi
  rw [e] at h2
  cases h2
theorem fnd_at {l : List D} {s : ByteArray} {k : Nat} (hk : k < l.length) (hp : isNm s l[k] = true) (h : noTo (isNm s) l k) : l.find? (isNm s) = some l[k] := by
  rw [List.find?_eq_some_iff_getElem]
  exact ⟨hp, k, hk, rfl, fun j hj => by rw [h j (by omega) hj]; rfl⟩
def arAt (l : List D) (ws : List ByteArray) (k p q : Nat) : Prop := arTo l ws 0 0 = arTo l (ws.drop k) p q
theorem arAt_zero (l : List D) (ws : List ByteArray) : arAt l ws 0 0 0 := by unfold arAt; rw [List.drop_zero]
theorem arAt_no {l : List D} {ws : List ByteArray} {k p q : Nat} (hlt : k < ws.length) (h : arAt l ws k p q) (hf : l.find? (isNm (bareB ws[k])) = none) : arTo l ws 0 0 = none := by
  unfold arAt at h
  rw [h, List.drop_eq_getElem_cons hlt, arTo, hf]
theorem arAt_inv {l : List D} {ws : List ByteArray} {k p q : Nat} {d : D} (hlt : k < ws.length) (h : arAt l ws k p q) (hf : l.find? (isNm (bareB ws[k])) = some d) (hi : isInv ws[k] = true) : arAt l ws (k + 1) p (q ||| d.val.toNat) := by
  unfold arAt at h ⊢
  rw [h, List.drop_eq_getElem_cons hlt, arTo, hf]
  simp only
  rw [if_pos hi]
theorem arAt_not {l : List D} {ws : List ByteArray} {k p q : Nat} {d : D} (hlt : k < ws.length) (h : arAt l ws k p q) (hf : l.find? (isNm (bareB ws[k])) = some d) (hi : isInv ws[k] = false) : arAt l ws (k + 1) (p ||| d.val.toNat) q := by
  unfold arAt at h ⊢
  rw [h, List.drop_eq_getElem_cons hlt, arTo, hf]
  simp only
  rw [if_neg (by rw [hi]; exact Bool.false_ne_true)]
theorem arAt_end {l : List D} {ws : List ByteArray} {p q : Nat} (h : arAt l ws ws.length p q) : arTo l ws 0 0 = some (p, q) := by
  unfold arAt at h
  rw [h, List.drop_length, arTo]
def arV (l : List D) (s : ByteArray) : Option (Nat × Nat) := if s = starB then some (0, 0) else arTo l (splitT 32 s) 0 0
/-- What is told of a text that is read: both numbers, and whether there are some. -/
structure ArR (r : Option (Nat × Nat)) (x y : Nat) (v : Bool) : Prop where
  yes : ∀ p q, r = some (p, q) → x = p ∧ y = q ∧ v = true
  no : r = none → x = 0 ∧ y = 0 ∧ v = false
theorem arR_of (r : Option (Nat × Nat)) : ArR r (r.getD (0, 0)).1 (r.getD (0, 0)).2 r.isSome := by
  cases r with
  | none => exact ⟨fun p q h => (by cases h), fun _ => ⟨rfl, rfl, rfl⟩⟩
  | some z => exact ⟨fun p q h => (by cases h; exact ⟨rfl, rfl, rfl⟩), fun h => (by cases h)⟩
theorem bareB_size (s : ByteArray) : (bareB s).size ≤ s.size := by
  unfold bareB
  split
  · rw [ByteArray.size_extract]; omega
  · exact Nat.le_refl _
theorem pre_bang (s : ByteArray) : Lib.hasPrefix s.data.toList (⟨#[33]⟩ : ByteArray).data.toList = isInv s := by
  unfold Lib.hasPrefix isInv
  cases s.data.toList with
  | nil => rfl
  | cons c r =>
    by_cases h : c = 33
    · subst h
      simp [List.isPrefixOf]
    · have h2 : ¬ (33 : UInt8) = c := fun e => h e.symm
      simp [List.isPrefixOf, h, h2]
theorem trim_bang (s : ByteArray) : (⟨(Lib.trimPrefix s.data.toList (⟨#[33]⟩ : ByteArray).data.toList).toArray⟩ : ByteArray) = bareB s := by
  unfold Lib.trimPrefix bareB
  rw [pre_bang]
  cases isInv s
  · rw [if_neg Bool.false_ne_true, if_neg Bool.false_ne_true]
  · rw [if_pos rfl, if_pos rfl]
    apply ByteArray.ext
    rw [ByteArray.data_extract]
    apply Array.ext'
    rw [Array.toList_extract, List.extract_eq_take_drop]
    show List.drop 1 s.data.toList = _
    rw [List.take_of_length_le]
    rw [List.length_drop, Array.length_toList]
    exact Nat.le_refl _
end Go.Proofs.YtpfdghbjagdhfaaDoor
