import Derived.Test.YtiebdhbioccogaaGreatDoorLAlg
import Derived.Test.YtiebdhbioccogaaGreatDoorBaseP
import Derived.Test.YtiebdhbioccogaaGreatDoorBaseB
import Derived.Test.YtiebdhbioccogaaGreatDoorFitP
import Derived.Test.YtiebdhbioccogaaGreatDoorLArm
import Derived.Test.YtiebdhbioccogaaGreatDoorFewP
import Derived.Test.YtiebdhbioccogaaGreatDoorArmP
import Derived.Test.YtiebdhbioccogaaGreatDoorBaseQ
import Derived.Test.YtiebdhbioccogaaGreatDoorBaseY
namespace Go.Proofs.YtiebdhbioccogaaGreatDoor
open Go.RowKit Go.Maps
set_option linter.unusedVariables false
set_option maxRecDepth 100000

/-! ### names of valid classes of flags: plain facts -/
theorem nm_idxF {ds : List D} {b : Int} (hv : vFlag ds b = true) (j : Nat) (hj : j < ds.length) : fidx (isNm ds[j].name) ds = (j : Int) := by
  have h1 : vEnum (ds.map unv) = true := by rw [← vDefs_unv (vFlag_in hv)]; exact vFlag_defs hv
  have h2 := name_idx h1 j (by simpa using hj)
  have h3 := unv_idx ds ds[j].name ds.length
  rw [List.take_of_length_le (by simp), List.take_of_length_le (Nat.le_refl _)] at h3
  rw [← h3]
  have h4 : ((ds.map unv)[j]'(by simpa using hj)).name = ds[j].name := by rw [List.getElem_map]; rfl
  rw [← h4]; exact h2
theorem valN_of {ds : List D} {b : Int} (hv : vFlag ds b = true) {d : D} (hd : d ∈ ds) : valN ds d.name = d.val.toNat ∧ 0 ≤ fidx (isNm d.name) ds := by
  obtain ⟨j, hj, rfl⟩ := List.mem_iff_getElem.1 hd
  have h := nm_idxF hv j hj
  exact ⟨valN_at hj h, by omega⟩
theorem fromTo_names {ds : List D} {b : Int} (hv : vFlag ds b = true) (es : List D) (h : ∀ d ∈ es, d ∈ ds) : fromTo ds (es.map (·.name)) = mMask es := by
  have key : ∀ (es : List D) (m : Nat), (∀ d ∈ es, d ∈ ds) → (es.map (·.name)).foldl (fun m s => m ||| valN ds s) m = es.foldl (fun m d => m ||| d.val.toNat) m := by
    intro es
    induction es with
    | nil => intro m _; rfl
    | cons d r ih =>
      intro m h
      rw [List.map_cons, List.foldl_cons, List.foldl_cons, (valN_of hv (h d (by simp))).1]
      exact ih _ fun x hx => h x (by simp [hx])
  exact key es 0 h
theorem allN_names {ds : List D} {b : Int} (hv : vFlag ds b = true) (es : List D) (h : ∀ d ∈ es, d ∈ ds) : allN ds (es.map (·.name)) = true := by
  unfold allN
  rw [List.all_eq_true]
  intro s hs
  obtain ⟨d, hd, rfl⟩ := List.mem_map.1 hs
  simp [(valN_of hv (h d hd)).2]
theorem from_names {ds : List D} {b : Int} (hv : vFlag ds b = true) (es : List D) (h : ∀ d ∈ es, d ∈ ds) : mFrom ds b (es.map (·.name)) = ((mMask es : Nat) : Int) ∧ mFromOk ds b (es.map (·.name)) = true := by
  have h1 : mFromOk ds b (es.map (·.name)) = true := by unfold mFromOk; rw [hv, allN_names hv es h]; rfl
  refine ⟨?_, h1⟩
  unfold mFrom; rw [h1, if_pos rfl, fromTo_names hv es h]
theorem part_mask {ds es : List D} (h : ∀ d ∈ es, d ∈ ds) : nl (mMask es) (mMask ds) = 0 := by
  rw [nl_zero]; intro i hi
  rw [mMask_tb, List.any_eq_true] at hi ⊢
  obtain ⟨d, hd, h1⟩ := hi
  exact ⟨d, h d hd, h1⟩
theorem rest_is {ds : List D} {b : Int} {p : Nat} (hp : mIsV ds b p = true) {r : Nat} (hr : nl p (mMask (mSg ds)) = r) : mRestIn ds b p = (r : Int) := by
  unfold mRestIn; rw [hp, if_pos rfl, Int.toNat_natCast, hr]
end Go.Proofs.YtiebdhbioccogaaGreatDoor

namespace Go.Proofs.YtiebdhbioccogaaGreatDoor
open Go.RowKit Go.Maps
set_option linter.unusedVariables false
set_option maxRecDepth 100000

/-! ### IsUnique -/
def mUniq (ds : List D) : Bool := vEnum ds && decide ((mems ds).length = ds.length)

end Go.Proofs.YtiebdhbioccogaaGreatDoor

namespace Go.Proofs.YtiebdhbioccogaaGreatDoor
open Go.RowKit
set_option linter.unusedVariables false
set_option maxRecDepth 100000

/-! ### what the laws ask of lists -/
def hT (s t : ByteArray) : Bool := t.toList == s.toList
theorem hT_iff {s t : ByteArray} : hT s t = true ↔ t = s := by
  unfold hT; rw [beq_iff_eq]; exact ⟨nm_inj, fun h => by rw [h]⟩




end Go.Proofs.YtiebdhbioccogaaGreatDoor

namespace Go.Proofs.YtiebdhbioccogaaGreatDoor
open Go.RowKit Go.Maps
set_option linter.unusedVariables false
set_option maxRecDepth 100000

/-! ### plain facts for the laws of chapter 4: comparing, names of either, names that add up -/
theorem nl_both {p q : Nat} (h1 : nl p q = 0) (h2 : nl q p = 0) : p = q := by
  rw [nl_zero] at *
  apply tb_ext; intro i
  rw [Bool.eq_iff_iff]
  exact ⟨h1 i, h2 i⟩
theorem cmp_eq (p : Nat) : cmpN p p = 0 := by unfold cmpN; rw [if_pos rfl]
theorem cmp_lt {p q : Nat} (h : p ≠ q) (h1 : nl p q = 0) : cmpN p q = -1 ∧ cmpN q p = 1 := by
  have h2 : nl q p ≠ 0 := fun h2 => h (nl_both h1 h2)
  unfold cmpN
  rw [if_neg h, if_pos h1, if_neg (Ne.symm h), if_neg h2, if_pos h1]
  exact ⟨rfl, rfl⟩
theorem cmp_un {p q : Nat} (h1 : nl p q ≠ 0) (h2 : nl q p ≠ 0) : cmpN p q = 2 ∧ cmpN q p = 2 := by
  have h : p ≠ q := fun h => h1 (by rw [h]; exact part_self q)
  unfold cmpN
  rw [if_neg h, if_neg h1, if_neg h2, if_neg (Ne.symm h), if_neg h2, if_neg h1]
  exact ⟨rfl, rfl⟩
theorem fromTo_acc (ds : List D) (ss : List ByteArray) (m : Nat) : ss.foldl (fun m s => m ||| valN ds s) m = m ||| fromTo ds ss := by
  unfold fromTo
  induction ss generalizing m with
  | nil => simp
  | cons s r ih => rw [List.foldl_cons, List.foldl_cons, ih, ih (0 ||| valN ds s), Nat.zero_or, Nat.or_assoc]
theorem fromTo_app (ds : List D) (xs ys : List ByteArray) : fromTo ds (xs ++ ys) = fromTo ds xs ||| fromTo ds ys := by
  have h : fromTo ds (xs ++ ys) = ys.foldl (fun m s => m ||| valN ds s) (fromTo ds xs) := by unfold fromTo; rw [List.foldl_append]
  rw [h, fromTo_acc]
theorem allN_app (ds : List D) (xs ys : List ByteArray) : allN ds (xs ++ ys) = (allN ds xs && allN ds ys) := by unfold allN; rw [List.all_append]
theorem fromTo_part {ds : List D} {ss : List ByteArray} (h : allN ds ss = true) : nl (fromTo ds ss) (mMask ds) = 0 := by
  induction ss with
  | nil => exact nl_zero.2 fun i hi => by rw [show fromTo ds [] = 0 from rfl, Nat.zero_testBit] at hi; cases hi
  | cons s r ih =>
    have e : fromTo ds (s :: r) = valN ds s ||| fromTo ds r := by
      have := fromTo_app ds [s] r
      rw [List.singleton_append] at this
      rw [this]
      congr 1
      unfold fromTo; rw [List.foldl_cons, List.foldl_nil, Nat.zero_or]
    have h2 : (allN ds [s] && allN ds r) = true := by rw [← allN_app]; exact h
    rw [Bool.and_eq_true] at h2
    rw [e]
    refine part_or ?_ (ih h2.2)
    have h3 : 0 ≤ fidx (isNm s) ds := by have := h2.1; unfold allN at this; simpa using this
    rcases fidx_cases (isNm s) ds with ⟨h4, _⟩ | ⟨j, hj, h4, _⟩
    · omega
    · rw [valN_at hj h4, nl_zero]
      intro i hi
      rw [mMask_tb, List.any_eq_true]
      exact ⟨ds[j], List.getElem_mem hj, hi⟩
/-- Definitions of a valid class with one name are one. -/
theorem nm_one {ds : List D} {b : Int} (hv : vFlag ds b = true) {d e : D} (hd : d ∈ ds) (he : e ∈ ds) (h : d.name = e.name) : d = e := by
  obtain ⟨i, hi, rfl⟩ := List.mem_iff_getElem.1 hd
  obtain ⟨j, hj, rfl⟩ := List.mem_iff_getElem.1 he
  have h1 := nm_idxF hv i hi
  have h2 := nm_idxF hv j hj
  rw [h] at h1
  have : i = j := by omega
  subst this; rfl
theorem in_has {ds : List D} {b : Int} (hv : vFlag ds b = true) {d : D} (hd : d ∈ mSg ds) (a : Nat) : ((mIn ds a).map (·.name)).any (hT d.name) = fitIn a d := by
  have hsub : ∀ x ∈ mSg ds, x ∈ ds := fun x hx => (sgTo_in hx).1
  rw [Bool.eq_iff_iff, List.any_eq_true]
  constructor
  · rintro ⟨s, hs, h⟩
    obtain ⟨e, he, rfl⟩ := List.mem_map.1 hs
    obtain ⟨he1, he2⟩ := List.mem_filter.1 he
    have : e = d := nm_one hv (hsub e he1) (hsub d hd) (hT_iff.1 h)
    rw [← this]; exact he2
  · intro h
    exact ⟨d.name, List.mem_map.2 ⟨d, List.mem_filter.2 ⟨hd, h⟩, rfl⟩, hT_iff.2 rfl⟩
theorem fit_or {ds : List D} {d : D} (hd : d ∈ mSg ds) (p q : Nat) : fitIn (p ||| q) d = (fitIn p d || fitIn q d) := by
  obtain ⟨j, _, e⟩ := sg_pow hd
  have h : ∀ a, fitIn a d = a.testBit j := fun a => by
    unfold fitIn; rw [e, Bool.eq_iff_iff, decide_eq_true_iff]; exact nl_pow
  rw [h, h, h, Nat.testBit_or]
theorem in_len_sg (ds : List D) (a : Nat) : (mIn ds a).length ≤ (mSg ds).length := List.length_filter_le _ _
end Go.Proofs.YtiebdhbioccogaaGreatDoor

namespace Go.Proofs.YtiebdhbioccogaaGreatDoor
open Go.RowKit Go.Maps
set_option linter.unusedVariables false
set_option maxRecDepth 100000

/-! ### what the law of fitting names asks -/
theorem fit_one {ds : List D} {b : Int} {d : D} {p : Nat} (hv : mIsV ds b (p : Int) = true) (hd : d ∈ mFit ds p) : ∃ t : Nat, mFrom ds b [d.name] = (t : Int) ∧ mFromOk ds b [d.name] = true ∧ ((t : Int) == 0) = false ∧ mHas ds b (p : Int) (t : Int) = true := by
  obtain ⟨h1, h2⟩ := List.mem_filter.1 hd
  obtain ⟨hds, hfit⟩ := List.mem_filter.1 h1
  have hfl := mIsV_flag hv
  have hin := vFlag_in hfl d hds
  have hsub : ∀ x ∈ [d], x ∈ ds := fun x hx => by rw [List.mem_singleton.1 hx]; exact hds
  obtain ⟨e1, e2⟩ := from_names hfl [d] hsub
  have hm : mMask [d] = d.val.toNat := by unfold mMask; rw [List.foldl_cons, List.foldl_nil, Nat.zero_or]
  rw [hm] at e1
  refine ⟨d.val.toNat, e1, e2, ?_, ?_⟩
  · rw [beq_eq_false_iff_ne]
    unfold hasV at h2
    have := of_decide_eq_true h2
    have := hin.1
    omega
  · have hp := part_mask hsub
    rw [hm] at hp
    unfold fitIn at hfit
    unfold mHas mTwo
    rw [hv, v_part hfl hp, Int.toNat_natCast, Int.toNat_natCast, hfit]
    rfl
theorem fit_sub {ds : List D} {b x : Int} {s : ByteArray} (h : s ∈ mNamesIn ds b x) : (mFitN ds b x).any (hT s) = true := by
  unfold mNamesIn at h
  unfold mFitN
  cases hv : mIsV ds b x
  · rw [hv] at h; cases h
  · rw [hv, if_pos rfl] at h
    rw [if_pos rfl]
    obtain ⟨d, hd, rfl⟩ := List.mem_map.1 h
    obtain ⟨h1, h2⟩ := List.mem_filter.1 hd
    rw [List.any_eq_true]
    refine ⟨d.name, List.mem_map.2 ⟨d, List.mem_filter.2 ⟨List.mem_filter.2 ⟨(sgTo_in h1).1, h2⟩, ?_⟩, rfl⟩, hT_iff.2 rfl⟩
    obtain ⟨i, _, e⟩ := sg_pow h1
    unfold hasV
    refine decide_eq_true (fun h0 => ?_)
    rw [h0] at e
    have := Nat.two_pow_pos i
    simp at e
    omega
theorem fitN_le (ds : List D) (b x : Int) : (mFitN ds b x).length ≤ ds.length := by
  unfold mFitN
  cases hv : mIsV ds b x
  · exact Nat.zero_le _
  · show ((mFit ds x.toNat).map _).length ≤ _
    rw [List.length_map]; exact mFit_len _ _
/-- Each of them alone. -/
theorem fit_at {ds : List D} {b : Int} {p : Nat} (hv : mIsV ds b (p : Int) = true) (k : Nat) (hk : k < (mFitN ds b (p : Int)).length) : ∃ t : Nat, mFrom ds b [(mFitN ds b (p : Int))[k]] = (t : Int) ∧ mFromOk ds b [(mFitN ds b (p : Int))[k]] = true ∧ ((t : Int) == 0) = false ∧ mHas ds b (p : Int) (t : Int) = true := by
  have hm : (mFitN ds b (p : Int))[k] ∈ mFitN ds b (p : Int) := List.getElem_mem hk
  have he : mFitN ds b (p : Int) = (mFit ds p).map (·.name) := by unfold mFitN; rw [hv, if_pos rfl, Int.toNat_natCast]
  generalize (mFitN ds b (p : Int))[k] = s at hm
  rw [he] at hm
  obtain ⟨d, hd, rfl⟩ := List.mem_map.1 hm
  exact fit_one hv hd
end Go.Proofs.YtiebdhbioccogaaGreatDoor

namespace Go.Proofs.YtiebdhbioccogaaGreatDoor
open Go.RowKit Go.Maps
set_option linter.unusedVariables false
set_option maxRecDepth 100000

/-! ### what the law of short names asks -/
theorem few_bits : ∀ {l : List D} {n a : Nat} {m : List D}, few l n a = some m → nl a (mMask m) = 0 ∧ m.Sublist l := by
  intro l
  induction l with
  | nil =>
    intro n a m h
    cases n with
    | zero =>
      rw [few_zero] at h
      split at h
      · rename_i h0; cases h; subst h0; exact ⟨nl_nil _, List.Sublist.refl _⟩
      · cases h
    | succ n => cases h
  | cons d r ih =>
    intro n a m h
    cases n with
    | zero =>
      rw [few_zero] at h
      split at h
      · rename_i h0; cases h; subst h0; exact ⟨nl_nil _, List.nil_sublist _⟩
      · cases h
    | succ n =>
      rw [few_cons] at h
      split at h
      · rename_i m2 h2
        cases h
        obtain ⟨h3, h4⟩ := ih h2
        refine ⟨?_, h4.cons_cons d⟩
        rw [nl_zero] at h3 ⊢
        intro i hi
        rw [mMask_tb, List.any_cons]
        cases hd : d.val.toNat.testBit i
        · have := h3 i (by rw [tb_nl, hi, hd]; rfl)
          rw [mMask_tb] at this
          rw [this]; rfl
        · rfl
      · obtain ⟨h3, h4⟩ := ih h
        exact ⟨h3, h4.cons d⟩
theorem few_some : ∀ {l m : List D}, m.Sublist l → ∀ {a : Nat}, nl a (mMask m) = 0 → few l m.length a ≠ none := by
  intro l m hs
  induction hs with
  | slnil =>
    intro a h
    have : a = 0 := by rw [mMask_nil, nl_zero] at h; apply Nat.eq_of_testBit_eq; intro i; rw [Nat.zero_testBit]; cases hi : a.testBit i; rfl; have := h i hi; rw [Nat.zero_testBit] at this; cases this
    subst this
    rw [List.length_nil, few_zero, if_pos rfl]; simp
  | cons d hs ih =>
    intro a h
    rename_i m2 l2
    cases hm : m2.length with
    | zero => 
      have := ih h
      rw [hm, few_zero] at this
      rw [few_zero]; exact this
    | succ n =>
      rw [few_cons]
      have := ih h
      rw [hm] at this
      split
      · simp
      · exact this
  | cons_cons d hs ih =>
    intro a h
    rename_i m2 l2
    show few (d :: l2) (m2.length + 1) a ≠ none
    rw [few_cons]
    have h2 : nl (nl a d.val.toNat) (mMask m2) = 0 := by
      rw [nl_zero] at h ⊢
      intro i hi
      rw [tb_nl, Bool.and_eq_true] at hi
      have := h i hi.1
      rw [mMask_tb, List.any_cons] at this
      rw [mMask_tb]
      have h3 := hi.2
      cases hd : d.val.toNat.testBit i
      · rw [hd] at this; simpa using this
      · rw [hd] at h3; cases h3
    have := ih h2
    split
    · simp
    · rename_i h3; exact absurd h3 this
theorem fewUp_none {l : List D} {w : Nat} : ∀ {k j : Nat}, fewUp l w k = none → j < k → few l j w = none
  | 0, j, h, hj => by omega
  | k + 1, j, h, hj => by
    unfold fewUp at h
    split at h
    · cases h
    · rename_i h1
      by_cases he : j = k
      · subst he; exact h
      · exact fewUp_none h1 (by omega)
theorem fewUp_some {l m : List D} {w : Nat} : ∀ {k : Nat}, fewUp l w k = some m → few l m.length w = some m ∧ ∀ j, j < m.length → few l j w = none
  | 0, h => by cases h
  | k + 1, h => by
    unfold fewUp at h
    split at h
    · rename_i m2 h1
      cases h
      exact fewUp_some h1
    · rename_i h1
      have hk := (few_len h).1
      rw [hk]
      exact ⟨h, fun j hj => fewUp_none h1 hj⟩
/-- What the shortest choice is. -/
theorem short_min (l : List D) : few l (mShortL l).length (mMask l) = some (mShortL l) ∧ ∀ j, j < (mShortL l).length → few l j (mMask l) = none := by
  unfold mShortL
  cases h : fewUp l (mMask l) l.length with
  | some m => exact fewUp_some h
  | none => exact ⟨few_full (nl_zero.2 fun i h => h), fun j hj => fewUp_none h hj⟩
theorem mask_sub {m l : List D} (h : ∀ d ∈ m, d ∈ l) : nl (mMask m) (mMask l) = 0 := by
  rw [nl_zero]
  intro i hi
  rw [mMask_tb, List.any_eq_true] at hi ⊢
  obtain ⟨d, hd, hb⟩ := hi
  exact ⟨d, h d hd, hb⟩
theorem nl_two {p q : Nat} (h1 : nl p q = 0) (h2 : nl q p = 0) : p = q := by
  apply Nat.eq_of_testBit_eq
  intro i
  rw [nl_zero] at h1 h2
  cases hp : p.testBit i <;> cases hq : q.testBit i <;> first | rfl | (have := h1 i hp; rw [hq] at this; cases this) | (have := h2 i hq; rw [hp] at this; cases this)
theorem short_mask (l : List D) : mMask (mShortL l) = mMask l := nl_two (mask_sub (mShortL_mem l).2) (few_bits (short_min l).1).1
theorem short_erase (l : List D) (k : Nat) (hk : k < (mShortL l).length) : mMask ((mShortL l).eraseIdx k) ≠ mMask l := by
  intro h
  have hs : ((mShortL l).eraseIdx k).Sublist l := (List.eraseIdx_sublist _ _).trans (few_bits (short_min l).1).2
  have hl : ((mShortL l).eraseIdx k).length = (mShortL l).length - 1 := List.length_eraseIdx_of_lt hk
  have := few_some hs (a := mMask l) (by rw [h]; exact nl_zero.2 fun i h => h)
  rw [hl] at this
  exact this ((short_min l).2 _ (by omega))
theorem popc_mono2 {a c : Nat} (h : nl a c = 0) : popc a ≤ popc c := by have := popc_nl h; omega
/-- Those that add a bit. -/
def greedy : List D → Nat → List D
  | [], _ => []
  | d :: r, acc => if nl d.val.toNat acc = 0 then greedy r acc else d :: greedy r (acc ||| d.val.toNat)
theorem greedy_law : ∀ (l : List D) (acc : Nat), (greedy l acc).Sublist l ∧ nl (mMask l) (acc ||| mMask (greedy l acc)) = 0 ∧ (greedy l acc).length + popc acc ≤ popc (acc ||| mMask l) := by
  intro l
  induction l with
  | nil => intro acc; refine ⟨List.Sublist.refl _, nl_nil _, ?_⟩; show 0 + popc acc ≤ popc (acc ||| mMask []); rw [mMask_nil, Nat.or_zero]; omega
  | cons d r ih =>
    intro acc
    unfold greedy
    by_cases h : nl d.val.toNat acc = 0
    · rw [if_pos h]
      obtain ⟨h1, h2, h3⟩ := ih acc
      refine ⟨h1.cons d, ?_, ?_⟩
      · rw [nl_zero] at h h2 ⊢
        intro i hi
        rw [mMask_tb, List.any_cons, Bool.or_eq_true] at hi
        rcases hi with hi | hi
        · rw [Nat.testBit_or, h i hi]; rfl
        · exact h2 i (by rw [mMask_tb]; exact hi)
      · refine Nat.le_trans h3 (popc_mono2 ?_)
        rw [nl_zero]
        intro i hi
        rw [Nat.testBit_or, Bool.or_eq_true] at hi ⊢
        rcases hi with hi | hi
        · exact .inl hi
        · right; rw [mMask_tb, List.any_cons] at *; rw [hi, Bool.or_true]
    · rw [if_neg h]
      obtain ⟨h1, h2, h3⟩ := ih (acc ||| d.val.toNat)
      refine ⟨h1.cons_cons d, ?_, ?_⟩
      · rw [nl_zero] at h2 ⊢
        intro i hi
        rw [mMask_tb, List.any_cons, Bool.or_eq_true] at hi
        rw [Nat.testBit_or, mMask_tb, List.any_cons]
        rcases hi with hi | hi
        · rw [hi]; simp
        · have := h2 i (by rw [mMask_tb]; exact hi)
          rw [Nat.testBit_or, Nat.testBit_or, mMask_tb] at this
          simpa [Bool.or_assoc] using this
      · have hq : nl acc (acc ||| d.val.toNat) = 0 := nl_zero.2 fun i hi => by rw [Nat.testBit_or, hi]; rfl
        have hp := popc_nl hq
        have hne : nl (acc ||| d.val.toNat) acc ≠ 0 := by
          intro h0
          apply h
          rw [nl_zero] at h0 ⊢
          intro i hi
          exact h0 i (by rw [Nat.testBit_or, hi, Bool.or_true])
        have h0 : popc (nl (acc ||| d.val.toNat) acc) ≠ 0 := fun e => hne ((popc_zero_iff _).1 e)
        have hm : popc (acc ||| d.val.toNat ||| mMask r) ≤ popc (acc ||| mMask (d :: r)) := popc_mono2 (by
          rw [nl_zero]
          intro i hi
          rw [Nat.testBit_or, Nat.testBit_or, mMask_tb] at hi
          rw [Nat.testBit_or, mMask_tb, List.any_cons]
          simpa [Bool.or_assoc] using hi)
        show (greedy r (acc ||| d.val.toNat)).length + 1 + popc acc ≤ _
        omega
theorem short_count (l : List D) : (mShortL l).length ≤ popc (mMask l) := by
  obtain ⟨h1, h2, h3⟩ := greedy_law l 0
  rw [Nat.zero_or] at h2
  rw [Nat.zero_or, popc_zero] at h3
  have h4 := few_some h1 h2
  by_cases h : (greedy l 0).length < (mShortL l).length
  · exact absurd ((short_min l).2 _ h) h4
  · omega
end Go.Proofs.YtiebdhbioccogaaGreatDoor

namespace Go.Proofs.YtiebdhbioccogaaGreatDoor
open Go.RowKit
set_option linter.unusedVariables false

theorem implShowV_v (ds : List D) (b x : Int) (A : Option Addr) (m c : Nat) (w : World) (hr : SD w w.heap.size A m c ds) (hn : m ≤ 1048576) (hT : RT w w.heap.size) {s : ByteArray} (hs : mShowV ds b x = s) :
    Calls Tryz.prog 93 #[.agg #[.slice A m c, .int .i64 b], .int .i64 x] w fun e w' => e = .returned (.string s) ∧ Below w.heap.size w w' := by
  rw [← hs]; exact implShowV_any ds b x A m c w hr hn hT.p10 hT.lp
theorem implShowSh_v (ds : List D) (b x : Int) (A : Option Addr) (m c : Nat) (w : World) (hr : SD w w.heap.size A m c ds) (hn : m ≤ 1048576) (hT : RT w w.heap.size) {s : ByteArray} (hs : mShowSh ds b x = s) :
    Calls Tryz.prog 97 #[.agg #[.slice A m c, .int .i64 b], .int .i64 x] w fun e w' => e = .returned (.string s) ∧ Below w.heap.size w w' := by
  rw [← hs]; exact implShowSh_any ds b x A m c w hr hn hT.p10 hT.lp
theorem specShowSh_v (ds : List D) (b x : Int) (A : Option Addr) (m c : Nat) (w : World) (hr : SD w w.heap.size A m c ds) {s : ByteArray} (hs : mShowSh ds b x = s) :
    Calls Tryz.prog 35 #[.agg #[.slice A m c, .int .i64 b], .int .i64 x] w fun e w' => e = .returned (.string s) ∧ Below w.heap.size w w' := by
  rw [← hs]; exact specShowSh_any ds b x A m c w hr

/-! ### texts of values are texts -/
theorem rd_empty {ds : List D} {b : Int} (hv : vFlag ds b = true) : rdV ds b ⟨#[]⟩ = -1 := by
  have hp : partV ds ⟨#[]⟩ = -1 := by
    rcases fidx_cases (isNm (⟨#[]⟩ : ByteArray)) ds with ⟨hx, _⟩ | ⟨k, hk, _, hp, _⟩
    · rw [partV_num (by omega)]
      rfl
    · have e : ds[k].name = ⟨#[]⟩ := isNm_iff.1 hp
      exact absurd (by rw [e]) (fname_pos hv (List.getElem_mem hk))
  refine rdV_none ?_
  show rdTo ds [(⟨#[]⟩ : ByteArray)] 0 = none
  rw [rdTo, hp, if_neg (by omega)]
theorem text_size {ds l : List D} {b : Int} (hv : vFlag ds b = true) (hl : ∀ d ∈ l, d ∈ ds) (hn : l.length ≤ 20) {a : Nat} (ha : a < 4096) : (mText ds l a).size ≤ 1000 := by
  have h8 : ∀ s ∈ l.map (·.name) ++ restW (nl a (mMask l)), s.size ≤ 8 := fun s hs => by
    rcases List.mem_append.1 hs with hs | hs
    · exact sub_size hv hl s hs
    · unfold restW at hs
      split at hs
      · cases hs
      · rw [List.mem_singleton.1 hs]
        have := nl_lt (b := mMask l) ha
        exact decB_size 7 _ (by omega)
  have hlen : (l.map (·.name) ++ restW (nl a (mMask l))).length ≤ 21 := by
    rw [List.length_append, List.length_map]
    have : (restW (nl a (mMask l))).length ≤ 1 := by unfold restW; split <;> simp
    omega
  unfold mText textW
  split
  · rcases fidx_cases (isVal 0) ds with ⟨hx, _⟩ | ⟨k, hk, hx, _, _⟩
    · rw [zeroT_no (by omega)]; decide
    · rw [zeroT_yes hk hx]
      have := flag_name6 hv (List.getElem_mem hk)
      omega
  · have h := joinW_size (sep := bar) h8 _ (Nat.le_refl _)
    rw [List.take_of_length_le (Nat.le_refl _)] at h
    have h2 : bar.size = 1 := rfl
    rw [h2] at h
    have h3 : (8 + 1) * (l.map (·.name) ++ restW (nl a (mMask l))).length ≤ 9 * 21 := Nat.mul_le_mul_left 9 hlen
    exact Nat.le_trans h (by omega)
theorem showV_size {ds : List D} {b x : Int} (h : mIsV ds b x = true) : (mShowV ds b x).size ≤ 1000 := by
  obtain ⟨p, rfl, hp⟩ := mIsV_nat h
  unfold mShowV
  rw [if_pos h, Int.toNat_natCast]
  exact text_size (mIsV_flag h) (fun d hd => mIn_in hd) (by have := mIn_len ds p; omega) hp
theorem showSh_size {ds : List D} {b x : Int} (h : mIsV ds b x = true) : (mShowSh ds b x).size ≤ 1000 := by
  obtain ⟨p, rfl, hp⟩ := mIsV_nat h
  unfold mShowSh
  rw [if_pos h, Int.toNat_natCast]
  refine text_size (mIsV_flag h) (fun d hd => mShort_in hd) ?_ hp
  have := (mShortL_mem (mFit ds p)).1
  have := mFit_len ds p
  have := vFlag_len (mIsV_flag h)
  omega
structure ShvL (ds : List D) (b x : Int) (s : ByteArray) : Prop where
  ne : s.toList.isEmpty = false
  size : s.size ≤ 1000
  rd : mRead ds b s = x
  ok : mReadOk ds b s = true
theorem back_ne {ds : List D} {b : Int} {p : Nat} {s : ByteArray} (hv : vFlag ds b = true) (h : rdV ds b s = p) : s.toList.isEmpty = false := by
  cases e : s.toList with
  | cons x r => rfl
  | nil =>
    rw [Go.ByteArray.toList_eq] at e
    have e2 : s = ⟨#[]⟩ := ByteArray.ext (Array.toList_inj.1 e)
    rw [e2, rd_empty hv] at h
    omega
theorem shv_law {ds : List D} {b x : Int} (h : mIsV ds b x = true) : ShvL ds b x (mShowV ds b x) := by
  have hs := showV_size h
  obtain ⟨p, rfl, hp⟩ := mIsV_nat h
  have hr := read_show h
  exact ⟨back_ne (mIsV_flag h) hr, hs, (read_ok (mIsV_flag h) hr).1, (read_ok (mIsV_flag h) hr).2⟩
theorem shsh_law {ds : List D} {b x : Int} (h : mIsV ds b x = true) : ShvL ds b x (mShowSh ds b x) := by
  have hs := showSh_size h
  obtain ⟨p, rfl, hp⟩ := mIsV_nat h
  have hr := read_short h
  exact ⟨back_ne (mIsV_flag h) hr, hs, (read_ok (mIsV_flag h) hr).1, (read_ok (mIsV_flag h) hr).2⟩

/-! ### fewest names are no more than the single ones, where these leave nothing -/
theorem popc_or_le (p q : Nat) : popc (p ||| q) ≤ popc p + popc q := by have := popc_or_and p q; omega
theorem popc_mask_le : ∀ (l : List D), (∀ d ∈ l, popc d.val.toNat ≤ 1) → popc (mMask l) ≤ l.length
  | [], _ => by rw [mMask_nil, popc_zero]; exact Nat.le_refl _
  | d :: l, h => by
    have h1 := popc_mask_le l (fun x hx => h x (List.mem_cons_of_mem _ hx))
    have h2 := h d (List.mem_cons_self ..)
    have e : mMask (d :: l) = d.val.toNat ||| mMask l := by
      rw [show d :: l = [d] ++ l from rfl, mMask_app]
      congr 1
      show 0 ||| d.val.toNat = _
      rw [Nat.zero_or]
    have h3 := popc_or_le d.val.toNat (mMask l)
    rw [e, List.length_cons]
    omega
theorem popc_pow1 (i : Nat) : popc (2 ^ i) ≤ 1 := by
  induction i with
  | zero =>
    show popc 1 ≤ 1
    rw [popc_pos (by decide), show 1 / 2 = 0 from rfl, popc_zero]
    decide
  | succ i ih =>
    rw [popc_pos (Nat.two_pow_pos _), Nat.pow_succ, Nat.mul_mod_left, Nat.mul_div_cancel _ (by decide)]
    omega
theorem in_rest {ds : List D} {p : Nat} (h0 : nl p (mMask (mSg ds)) = 0) : nl p (mMask (mIn ds p)) = 0 := by
  rw [nl_zero]
  intro i hi
  have h1 := nl_zero.1 h0 i hi
  rw [mMask_tb, List.any_eq_true] at h1 ⊢
  obtain ⟨d, hd, hb⟩ := h1
  refine ⟨d, List.mem_filter.2 ⟨hd, ?_⟩, hb⟩
  obtain ⟨_, j, _, e⟩ := sgTo_in hd
  unfold fitIn
  rw [decide_eq_true_iff, nl_zero]
  intro q hq
  rw [e, Int.toNat_natCast, pow_tb, decide_eq_true_iff] at hb hq
  subst hb hq
  exact hi
theorem short_le_in {ds : List D} {b : Int} {p : Nat} (hv : mIsV ds b (p : Int) = true) (h00 : nl p (mMask (mSg ds)) = 0) : (mShortN ds b (p : Int)).length ≤ (mNamesIn ds b (p : Int)).length := by
  have h0 := in_rest h00
  unfold mShortN mNamesIn
  rw [if_pos hv, if_pos hv, Int.toNat_natCast, List.length_map, List.length_map]
  have h1 := short_count (mFit ds p)
  have h2 : popc (mMask (mFit ds p)) ≤ popc p := popc_mono2 (mask_part fun d hd => (List.mem_filter.1 (List.mem_filter.1 hd).1).2)
  have h3 : popc p ≤ popc (mMask (mIn ds p)) := popc_mono2 h0
  have h4 := popc_mask_le (mIn ds p) (fun d hd => by
    obtain ⟨_, i, _, e⟩ := sgTo_in (List.mem_filter.1 hd).1
    rw [e, Int.toNat_natCast]
    exact popc_pow1 i)
  omega
end Go.Proofs.YtiebdhbioccogaaGreatDoor

