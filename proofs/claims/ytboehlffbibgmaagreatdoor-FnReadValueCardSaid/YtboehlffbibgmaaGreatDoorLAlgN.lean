import Derived.Test.YtboehlffbibgmaaGreatDoorLAlg
import Derived.Test.YtboehlffbibgmaaGreatDoorBaseP
namespace Go.Proofs.YtboehlffbibgmaaGreatDoor
open Go.RowKit Go.Maps
set_option linter.unusedVariables false
set_option maxRecDepth 100000

/-! ### names of valid classes of flags: plain facts -/
theorem nm_idxF {ds : List D} {b : Int} (hv : vFlag ds b = true) (j : Nat) (hj : j < ds.length) : fidx (isNm ds[j].name) ds = (j : Int) := by
  have h1 : vEnum (ds.map unv) = true := by rw [← vDefs_unv (vFlag_in hv)]; exact vFlag_defs hv
  have h2 := name_idx h1 j (by simpa using hj)
  have h3 := unv_idx ds ds[j].name ds.length
  rw [List.take_of_length_le (by simp), List.take_of_length_le (Nat.le_refl _)] at h3
  rw [← h3]
  have h4 : ((ds.map unv)[j]'(by simpa using hj)).name = ds[j].name := by rw [List.getElem_map]; rfl
  rw [← h4]; exact h2
theorem valN_of {ds : List D} {b : Int} (hv : vFlag ds b = true) {d : D} (hd : d ∈ ds) : valN ds d.name = d.val.toNat ∧ 0 ≤ fidx (isNm d.name) ds := by
  obtain ⟨j, hj, rfl⟩ := List.mem_iff_getElem.1 hd
  have h := nm_idxF hv j hj
  exact ⟨valN_at hj h, by omega⟩
theorem fromTo_names {ds : List D} {b : Int} (hv : vFlag ds b = true) (es : List D) (h : ∀ d ∈ es, d ∈ ds) : fromTo ds (es.map (·.name)) = mMask es := by
  have key : ∀ (es : List D) (m : Nat), (∀ d ∈ es, d ∈ ds) → (es.map (·.name)).foldl (fun m s => m ||| valN ds s) m = es.foldl (fun m d => m ||| d.val.toNat) m := by
    intro es
    induction es with
    | nil => intro m _; rfl
    | cons d r ih =>
      intro m h
      rw [List.map_cons, List.foldl_cons, List.foldl_cons, (valN_of hv (h d (by simp))).1]
      exact ih _ fun x hx => h x (by simp [hx])
  exact key es 0 h
theorem allN_names {ds : List D} {b : Int} (hv : vFlag ds b = true) (es : List D) (h : ∀ d ∈ es, d ∈ ds) : allN ds (es.map (·.name)) = true := by
  unfold allN
  rw [List.all_eq_true]
  intro s hs
  obtain ⟨d, hd, rfl⟩ := List.mem_map.1 hs
  simp [(valN_of hv (h d hd)).2]
theorem from_names {ds : List D} {b : Int} (hv : vFlag ds b = true) (es : List D) (h : ∀ d ∈ es, d ∈ ds) : mFrom ds b (es.map (·.name)) = ((mMask es : Nat) : Int) ∧ mFromOk ds b (es.map (·.name)) = true := by
  have h1 : mFromOk ds b (es.map (·.name)) = true := by unfold mFromOk; rw [hv, allN_names hv es h]; rfl
  refine ⟨?_, h1⟩
  unfold mFrom; rw [h1, if_pos rfl, fromTo_names hv es h]
theorem part_mask {ds es : List D} (h : ∀ d ∈ es, d ∈ ds) : nl (mMask es) (mMask ds) = 0 := by
  rw [nl_zero]; intro i hi
  rw [mMask_tb, List.any_eq_true] at hi ⊢
  obtain ⟨d, hd, h1⟩ := hi
  exact ⟨d, h d hd, h1⟩
theorem rest_is {ds : List D} {b : Int} {p : Nat} (hp : mIsV ds b p = true) {r : Nat} (hr : nl p (mMask (mSg ds)) = r) : mRestIn ds b p = (r : Int) := by
  unfold mRestIn; rw [hp, if_pos rfl, Int.toNat_natCast, hr]
end Go.Proofs.YtboehlffbibgmaaGreatDoor
