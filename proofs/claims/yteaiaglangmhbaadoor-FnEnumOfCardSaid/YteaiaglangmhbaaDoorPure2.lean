/-
Plain facts on valid enumerations: what makes one, and what is still one when definitions are left out or put in another order.
-/
import Derived.Test.YteaiaglangmhbaaDoorBaseA
namespace Go.Proofs.YteaiaglangmhbaaDoor
set_option linter.unusedVariables false
set_option maxRecDepth 100000

/-- A definition by itself. -/
def okD (d : D) : Prop := vName d.name = true ∧ -1000 ≤ d.val ∧ d.val ≤ 1000
def NoDup (ds : List D) : Prop := ds.Pairwise fun a b => a.name ≠ b.name
theorem vEnum_iff (ds : List D) : vEnum ds = true ↔ ds.length ≤ 12 ∧ (∀ d ∈ ds, okD d) ∧ NoDup ds := by
  unfold vEnum vDefs NoDup
  rw [Bool.and_eq_true, decide_eq_true_iff, decide_eq_true_iff, and_comm]
  refine and_congr Iff.rfl ?_
  rw [List.pairwise_iff_getElem]
  have hg : ∀ i (h : i < ds.length), goodAt (-1000) 1000 ds i ds[i] = true ↔ okD ds[i] ∧ ∀ j (hj : j < ds.length), j < i → ds[j].name ≠ ds[i].name := by
    intro i hi
    unfold goodAt okD
    rw [fidx_any]
    simp only [Bool.and_eq_true, decide_eq_true_iff, Bool.not_eq_true', List.any_eq_false, and_assoc]
    refine and_congr Iff.rfl (and_congr Iff.rfl (and_congr Iff.rfl ?_))
    constructor
    · intro h j hj hji e
      exact h ds[j] (List.mem_iff_getElem.2 ⟨j, by simp; omega, by simp⟩) (isNm_iff.2 e)
    · intro h x hx
      obtain ⟨j, hj, rfl⟩ := List.mem_iff_getElem.1 hx
      have hj2 : j < i ∧ j < ds.length := by rw [List.length_take] at hj; omega
      intro e
      exact h j hj2.2 hj2.1 (by simpa using isNm_iff.1 e)
  constructor
  · intro h
    refine ⟨fun d hd => ?_, fun i j hi hj hij => ((hg j hj).1 (h j hj hj)).2 i hi hij⟩
    obtain ⟨i, hi, rfl⟩ := List.mem_iff_getElem.1 hd
    exact ((hg i hi).1 (h i hi hi)).1
  · intro ⟨h1, h2⟩ i hi _
    exact (hg i hi).2 ⟨h1 _ (List.getElem_mem hi), fun j hj hji => h2 j i hj hi hji⟩
theorem vEnum_sub {ds es : List D} (h : vEnum ds = true) (hs : es.Sublist ds) : vEnum es = true := by
  rw [vEnum_iff] at *
  exact ⟨Nat.le_trans hs.length_le h.1, fun d hd => h.2.1 d (hs.subset hd), h.2.2.sublist hs⟩
/-- ds without the definition at k. -/
def ers (ds : List D) (k : Nat) : List D := ds.take k ++ ds.drop (k + 1)
theorem ers_sub (ds : List D) (k : Nat) : (ers ds k).Sublist ds := by
  have h : ds = ds.take k ++ ds.drop k := (List.take_append_drop k ds).symm
  unfold ers
  conv => rhs; rw [h]
  refine List.Sublist.append (List.Sublist.refl _) ?_
  have : ds.drop (k + 1) = (ds.drop k).drop 1 := by rw [List.drop_drop]
  rw [this]
  exact List.drop_sublist _ _
theorem ers_len (ds : List D) (k : Nat) (h : k < ds.length) : (ers ds k).length = ds.length - 1 := by
  unfold ers; simp; omega
theorem ers_mem {ds : List D} {k : Nat} {x : D} (h : x ∈ ers ds k) : x ∈ ds := (ers_sub ds k).subset h
theorem vEnum_ers {ds : List D} (h : vEnum ds = true) (k : Nat) : vEnum (ers ds k) = true := vEnum_sub h (ers_sub ds k)
/-- Names are met once. -/
theorem nodup_inj {ds : List D} (h : NoDup ds) {i j : Nat} (hi : i < ds.length) (hj : j < ds.length) (e : ds[i].name = ds[j].name) : i = j := by
  unfold NoDup at h
  rw [List.pairwise_iff_getElem] at h
  rcases Nat.lt_trichotomy i j with hij | hij | hij
  · exact absurd e (h i j hi hj hij)
  · exact hij
  · exact absurd e.symm (h j i hj hi hij)
end Go.Proofs.YteaiaglangmhbaaDoor
