import Derived.Test.YteaiaglangmhbaaDoorSameP
import Derived.Test.YteaiaglangmhbaaDoorBaseB
namespace Go.Proofs.YteaiaglangmhbaaDoor
open Go.RowKit
set_option linter.unusedVariables false
set_option maxRecDepth 100000

/-- The first definition with a value. -/
def valOf (b : List D) (v : Int) : Option D := if fidx (isVal v) b < 0 then none else b[(fidx (isVal v) b).toNat]?
theorem valOf_none {b : List D} {v : Int} (h : fidx (isVal v) b < 0) : valOf b v = none := by unfold valOf; rw [if_pos h]
theorem valOf_some {b : List D} {v : Int} {k : Nat} (hk : k < b.length) (h : fidx (isVal v) b = (k : Int)) : valOf b v = some b[k] := by
  unfold valOf
  rw [h, if_neg (show ¬ ((k : Int) < 0) by omega)]
  simp [hk]
/-- What a wrote as v is read by b. -/
def readV (a b : List D) (v : Int) : Bool := match valOf b v with | none => false | some e => (match defOf a e.name with | none => false | some x => x.val == v)
def mReads (a b : List D) : Bool := vEnum a && vEnum b && a.all (fun d => readV a b d.val)
theorem mReads_no {a b : List D} (h : vEnum a = false ∨ vEnum b = false) : mReads a b = false := by
  unfold mReads
  rcases h with h | h
  · rw [h]; rfl
  · rw [h, Bool.and_false]; rfl
theorem mReads_bad {a b : List D} {d : D} (hd : d ∈ a) (h : readV a b d.val = false) : mReads a b = false := by
  unfold mReads
  have : a.all (fun d => readV a b d.val) = false := by
    rw [List.all_eq_false]
    exact ⟨d, hd, by rw [h]; simp⟩
  rw [this, Bool.and_false]
theorem mReads_all {a b : List D} (ha : vEnum a = true) (hb : vEnum b = true) (h : ∀ d ∈ a, readV a b d.val = true) : mReads a b = true := by
  unfold mReads
  rw [ha, hb, List.all_eq_true.2 h]; rfl
theorem readV_none {a b : List D} {v : Int} (h : fidx (isVal v) b < 0) : readV a b v = false := by unfold readV; rw [valOf_none h]
theorem readV_no {a b : List D} {v : Int} {k : Nat} (hk : k < b.length) (h : fidx (isVal v) b = (k : Int)) (h2 : fidx (isNm b[k].name) a < 0) : readV a b v = false := by
  unfold readV; rw [valOf_some hk h]; simp only; rw [defOf_none h2]
theorem readV_at {a b : List D} {v : Int} {k j : Nat} (hk : k < b.length) (h : fidx (isVal v) b = (k : Int)) (hj : j < a.length) (h2 : fidx (isNm b[k].name) a = (j : Int)) : readV a b v = (a[j].val == v) := by
  unfold readV; rw [valOf_some hk h]; simp only; rw [defOf_some hj h2]
theorem readV_any {a b : List D} (hn : NoDup a) {v : Int} {k : Nat} (hk : k < b.length) (h : fidx (isVal v) b = (k : Int)) : readV a b v = a.any (isD ⟨b[k].name, v⟩) := by
  rw [Bool.eq_iff_iff, any_isD]
  unfold readV
  rw [valOf_some hk h]
  simp only
  cases hd : defOf a b[k].name with
  | none =>
    simp only [Bool.false_eq_true, false_iff]
    intro hm
    exact defOf_no.1 hd _ hm rfl
  | some x =>
    obtain ⟨h1, h2⟩ := (defOf_iff hn).1 hd
    simp only [beq_iff_eq]
    constructor
    · intro e
      have : x = ⟨b[k].name, v⟩ := D_ext h2 e
      rw [← this]; exact h1
    · intro hm
      have := (defOf_iff hn (s := b[k].name)).2 ⟨hm, rfl⟩
      rw [hd] at this
      cases this; rfl
theorem memTo_hasR (ds : List D) (j : Nat) (hj : j < ds.length) (hm : memAt ds j ds[j] = true) (k : Nat) (hk : j < k) (hl : k ≤ ds.length) : ds[j] ∈ memTo ds k := by
  induction k with
  | zero => omega
  | succ k ih =>
    rw [memTo_succ ds k (by omega)]
    by_cases e : j = k
    · subst e; simp [hm]
    · exact List.mem_append.2 (.inl (ih (by omega) (by omega)))
theorem mems_cover (ds : List D) (d : D) (hd : d ∈ ds) : ∃ m ∈ mems ds, m.val = d.val := by
  obtain ⟨i, hi, rfl⟩ := List.mem_iff_getElem.1 hd
  rcases fidx_cases (isVal ds[i].val) ds with ⟨h, hno⟩ | ⟨j, hj, h, hp, _⟩
  · have := hno i hi hi
    unfold isVal at this
    simp at this
  · have hv : ds[j].val = ds[i].val := by unfold isVal at hp; simpa using hp
    have hm : memAt ds j ds[j] = true := by rw [← mem_first ds j hj, hv, h]; simp
    exact ⟨ds[j], memTo_hasR ds j hj hm _ hj (Nat.le_refl _), hv⟩
end Go.Proofs.YteaiaglangmhbaaDoor
