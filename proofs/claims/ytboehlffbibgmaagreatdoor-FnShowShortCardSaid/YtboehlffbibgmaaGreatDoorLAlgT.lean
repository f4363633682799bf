import Derived.Test.YtboehlffbibgmaaGreatDoorLAlgN
import Derived.Test.YtboehlffbibgmaaGreatDoorLHelp
namespace Go.Proofs.YtboehlffbibgmaaGreatDoor
open Go.RowKit Go.Maps
set_option linter.unusedVariables false
set_option maxRecDepth 100000

/-! ### plain facts for the laws of chapter 4: comparing, names of either, names that add up -/
theorem nl_both {p q : Nat} (h1 : nl p q = 0) (h2 : nl q p = 0) : p = q := by
  rw [nl_zero] at *
  apply tb_ext; intro i
  rw [Bool.eq_iff_iff]
  exact ⟨h1 i, h2 i⟩
theorem cmp_eq (p : Nat) : cmpN p p = 0 := by unfold cmpN; rw [if_pos rfl]
theorem cmp_lt {p q : Nat} (h : p ≠ q) (h1 : nl p q = 0) : cmpN p q = -1 ∧ cmpN q p = 1 := by
  have h2 : nl q p ≠ 0 := fun h2 => h (nl_both h1 h2)
  unfold cmpN
  rw [if_neg h, if_pos h1, if_neg (Ne.symm h), if_neg h2, if_pos h1]
  exact ⟨rfl, rfl⟩
theorem cmp_un {p q : Nat} (h1 : nl p q ≠ 0) (h2 : nl q p ≠ 0) : cmpN p q = 2 ∧ cmpN q p = 2 := by
  have h : p ≠ q := fun h => h1 (by rw [h]; exact part_self q)
  unfold cmpN
  rw [if_neg h, if_neg h1, if_neg h2, if_neg (Ne.symm h), if_neg h2, if_neg h1]
  exact ⟨rfl, rfl⟩
theorem fromTo_acc (ds : List D) (ss : List ByteArray) (m : Nat) : ss.foldl (fun m s => m ||| valN ds s) m = m ||| fromTo ds ss := by
  unfold fromTo
  induction ss generalizing m with
  | nil => simp
  | cons s r ih => rw [List.foldl_cons, List.foldl_cons, ih, ih (0 ||| valN ds s), Nat.zero_or, Nat.or_assoc]
theorem fromTo_app (ds : List D) (xs ys : List ByteArray) : fromTo ds (xs ++ ys) = fromTo ds xs ||| fromTo ds ys := by
  have h : fromTo ds (xs ++ ys) = ys.foldl (fun m s => m ||| valN ds s) (fromTo ds xs) := by unfold fromTo; rw [List.foldl_append]
  rw [h, fromTo_acc]
theorem allN_app (ds : List D) (xs ys : List ByteArray) : allN ds (xs ++ ys) = (allN ds xs && allN ds ys) := by unfold allN; rw [List.all_append]
theorem fromTo_part {ds : List D} {ss : List ByteArray} (h : allN ds ss = true) : nl (fromTo ds ss) (mMask ds) = 0 := by
  induction ss with
  | nil => exact nl_zero.2 fun i hi => by rw [show fromTo ds [] = 0 from rfl, Nat.zero_testBit] at hi; cases hi
  | cons s r ih =>
    have e : fromTo ds (s :: r) = valN ds s ||| fromTo ds r := by
      have := fromTo_app ds [s] r
      rw [List.singleton_append] at this
      rw [this]
      congr 1
      unfold fromTo; rw [List.foldl_cons, List.foldl_nil, Nat.zero_or]
    have h2 : (allN ds [s] && allN ds r) = true := by rw [← allN_app]; exact h
    rw [Bool.and_eq_true] at h2
    rw [e]
    refine part_or ?_ (ih h2.2)
    have h3 : 0 ≤ fidx (isNm s) ds := by have := h2.1; unfold allN at this; simpa using this
    rcases fidx_cases (isNm s) ds with ⟨h4, _⟩ | ⟨j, hj, h4, _⟩
    · omega
    · rw [valN_at hj h4, nl_zero]
      intro i hi
      rw [mMask_tb, List.any_eq_true]
      exact ⟨ds[j], List.getElem_mem hj, hi⟩
/-- Definitions of a valid class with one name are one. -/
theorem nm_one {ds : List D} {b : Int} (hv : vFlag ds b = true) {d e : D} (hd : d ∈ ds) (he : e ∈ ds) (h : d.name = e.name) : d = e := by
  obtain ⟨i, hi, rfl⟩ := List.mem_iff_getElem.1 hd
  obtain ⟨j, hj, rfl⟩ := List.mem_iff_getElem.1 he
  have h1 := nm_idxF hv i hi
  have h2 := nm_idxF hv j hj
  rw [h] at h1
  have : i = j := by omega
  subst this; rfl
theorem in_has {ds : List D} {b : Int} (hv : vFlag ds b = true) {d : D} (hd : d ∈ mSg ds) (a : Nat) : ((mIn ds a).map (·.name)).any (hT d.name) = fitIn a d := by
  have hsub : ∀ x ∈ mSg ds, x ∈ ds := fun x hx => (sgTo_in hx).1
  rw [Bool.eq_iff_iff, List.any_eq_true]
  constructor
  · rintro ⟨s, hs, h⟩
    obtain ⟨e, he, rfl⟩ := List.mem_map.1 hs
    obtain ⟨he1, he2⟩ := List.mem_filter.1 he
    have : e = d := nm_one hv (hsub e he1) (hsub d hd) (hT_iff.1 h)
    rw [← this]; exact he2
  · intro h
    exact ⟨d.name, List.mem_map.2 ⟨d, List.mem_filter.2 ⟨hd, h⟩, rfl⟩, hT_iff.2 rfl⟩
theorem fit_or {ds : List D} {d : D} (hd : d ∈ mSg ds) (p q : Nat) : fitIn (p ||| q) d = (fitIn p d || fitIn q d) := by
  obtain ⟨j, _, e⟩ := sg_pow hd
  have h : ∀ a, fitIn a d = a.testBit j := fun a => by
    unfold fitIn; rw [e, Bool.eq_iff_iff, decide_eq_true_iff]; exact nl_pow
  rw [h, h, h, Nat.testBit_or]
theorem in_len_sg (ds : List D) (a : Nat) : (mIn ds a).length ≤ (mSg ds).length := List.length_filter_le _ _
end Go.Proofs.YtboehlffbibgmaaGreatDoor
