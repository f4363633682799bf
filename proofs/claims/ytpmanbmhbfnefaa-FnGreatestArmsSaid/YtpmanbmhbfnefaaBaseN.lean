import Derived.Test.YtpmanbmhbfnefaaArmP
import Derived.Test.YtpmanbmhbfnefaaBaseQ
import Derived.Test.YtpmanbmhbfnefaaBaseD
import Derived.Test.YtpmanbmhbfnefaaLArm
namespace Go.Proofs.Ytpmanbmhbfnefaa
set_option linter.unusedVariables false

/-! ### texts of arms: no program in sight -/
def starB : ByteArray := ⟨#[42]⟩
def bangB : ByteArray := ⟨#[33]⟩
def spB : ByteArray := ⟨#[32]⟩
def wordA (p q : Nat) (d : D) : List ByteArray := if d.val.toNat &&& p ≠ 0 then [d.name] else if d.val.toNat &&& q ≠ 0 then [bangB ++ d.name] else []
def wordsA (p q : Nat) (l : List D) : List ByteArray := l.flatMap (wordA p q)
theorem wordsA_succ (p q : Nat) {l : List D} {k : Nat} (hk : k < l.length) : wordsA p q (l.take (k + 1)) = wordsA p q (l.take k) ++ wordA p q l[k] := by
  unfold wordsA
  rw [List.take_succ_eq_append_getElem hk, List.flatMap_append]
  simp
theorem wordA_len (p q : Nat) (d : D) : (wordA p q d).length ≤ 1 := by
  unfold wordA
  split
  · exact Nat.le_refl _
  · split
    · exact Nat.le_refl _
    · exact Nat.zero_le _
theorem wordsA_len (p q : Nat) : ∀ l : List D, (wordsA p q l).length ≤ l.length
  | [] => Nat.le_refl _
  | d :: l => by
    have h1 := wordsA_len p q l
    have h2 := wordA_len p q d
    unfold wordsA at h1 ⊢
    rw [List.flatMap_cons, List.length_append, List.length_cons]
    omega
theorem wordA_in {p q : Nat} {d : D} {s : ByteArray} (h : s ∈ wordA p q d) : s = d.name ∨ s = bangB ++ d.name := by
  unfold wordA at h
  split at h
  · exact .inl (List.mem_singleton.1 h)
  · split at h
    · exact .inr (List.mem_singleton.1 h)
    · cases h
theorem wordsA_in {p q : Nat} {l : List D} {s : ByteArray} (h : s ∈ wordsA p q l) : ∃ d ∈ l, s = d.name ∨ s = bangB ++ d.name := by
  obtain ⟨d, hd, h2⟩ := List.mem_flatMap.1 h
  exact ⟨d, hd, wordA_in h2⟩
/-- The arm is valid, and each of its bits has a name of its own. -/
def mArmOk (ds : List D) (b : Int) (a : Ar) : Bool := vFlag ds b && fitsA (mMask (mSg ds)) a
def textA (ds : List D) (p q : Nat) : ByteArray := if wordsA p q (mSg ds) = [] then starB else joinW (wordsA p q (mSg ds)) spB
def mArmT (ds : List D) (b : Int) (a : Ar) : ByteArray := if mArmOk ds b a then textA ds a.all.toNat a.non.toNat else ⟨#[]⟩
theorem mSg_sub {ds : List D} {d : D} (h : d ∈ mSg ds) : d ∈ ds ∧ ∃ i, i < 12 ∧ d.val = ((2 ^ i : Nat) : Int) := sgTo_in h
theorem mSg_part (ds : List D) : nl (mMask (mSg ds)) (mMask ds) = 0 := by
  rw [nl_zero]
  intro i hi
  rw [mMask_tb, List.any_eq_true] at hi ⊢
  obtain ⟨d, hd, hb⟩ := hi
  exact ⟨d, (mSg_sub hd).1, hb⟩
theorem nl_trans {a b c : Nat} (h1 : nl a b = 0) (h2 : nl b c = 0) : nl a c = 0 := nl_zero.2 fun i hi => nl_zero.1 h2 i (nl_zero.1 h1 i hi)
theorem mArmOk_nat {ds : List D} {b : Int} {a : Ar} (h : mArmOk ds b a = true) : vFlag ds b = true ∧ ∃ p q : Nat, a.all = p ∧ a.non = q ∧ p < 4096 ∧ q < 4096 ∧ nl p (mMask (mSg ds)) = 0 ∧ nl q (mMask (mSg ds)) = 0 ∧ p &&& q = 0 := by
  unfold mArmOk at h
  rw [Bool.and_eq_true] at h
  refine ⟨h.1, fitsA_nat h.2 ?_⟩
  exact mMask_lt12 fun d hd => vFlag_in h.1 d (mSg_sub hd).1
/-- What the model asks in two steps. -/
theorem mArmOk_two {ds : List D} {b : Int} {a : Ar} : mArmOk ds b a = (mArm ds b a && decide (nl (a.all.toNat ||| a.non.toNat) (mMask (mSg ds)) = 0)) := by
  rw [Bool.eq_iff_iff]
  unfold mArmOk mArm fitsA fitsN
  simp only [Bool.and_eq_true, decide_eq_true_eq]
  rw [part_or_iff]
  constructor
  · rintro ⟨h0, ⟨h1, h2⟩, ⟨h3, h4⟩, h5⟩
    exact ⟨⟨h0, ⟨h1, h2⟩, ⟨nl_trans h3 (mSg_part ds), nl_trans h4 (mSg_part ds)⟩, h5⟩, h3, h4⟩
  · rintro ⟨⟨h0, ⟨h1, h2⟩, ⟨h3, h4⟩, h5⟩, h6, h7⟩
    exact ⟨h0, ⟨h1, h2⟩, ⟨h6, h7⟩, h5⟩
theorem and_pow (p i : Nat) : 2 ^ i &&& p ≠ 0 ↔ p.testBit i = true := by
  constructor
  · intro h
    cases hb : p.testBit i
    · refine absurd (Nat.eq_of_testBit_eq fun j => ?_) h
      rw [Nat.testBit_and, pow_tb, Nat.zero_testBit]
      by_cases e : i = j
      · subst e; rw [hb, Bool.and_false]
      · rw [decide_eq_false e, Bool.false_and]
    · rfl
  · intro h e
    have := congrArg (fun x => Nat.testBit x i) e
    simp [Nat.testBit_and, h] at this
/-- The model tells a name and an inverted name of one bit by itself: an arm has no bit in both places. -/
theorem word_two {p q : Nat} {d : D} {i : Nat} (hd : d.val = ((2 ^ i : Nat) : Int)) (hpq : p &&& q = 0) (hp : d.val.toNat &&& p ≠ 0) : ¬ d.val.toNat &&& q ≠ 0 := by
  rw [hd, Int.toNat_natCast] at *
  rw [and_pow] at *
  intro hq
  have := congrArg (fun x => Nat.testBit x i) hpq
  simp [Nat.testBit_and, hp, hq] at this
theorem textA_words {ds : List D} {b : Int} (hv : vFlag ds b = true) (p q : Nat) : ∀ s ∈ wordsA p q (mSg ds), s.size ≤ 8 ∧ (∀ c ∈ s.data.toList, c ≠ 32) ∧ s ≠ starB := by
  intro s hs
  obtain ⟨d, hd, h⟩ := wordsA_in hs
  have hdm := (mSg_sub hd).1
  have h6 := flag_name6 hv hdm
  have hok := fname_ok hv hdm
  have hsp : ∀ c ∈ d.name.data.toList, c ≠ 32 := fun c hc e => by subst e; exact absurd (hok _ hc) (by decide)
  rcases h with rfl | rfl
  · refine ⟨by omega, hsp, fun e => ?_⟩
    have := hok 42 (by rw [e]; exact List.mem_cons_self ..)
    exact absurd this (by decide)
  · refine ⟨by rw [ByteArray.size_append]; show 1 + d.name.size ≤ 8; omega, fun c hc => ?_, fun e => ?_⟩
    · rw [ByteArray.data_append, Array.toList_append] at hc
      rcases List.mem_append.1 hc with hc | hc
      · have : c = 33 := by simpa [bangB] using hc
        subst this; decide
      · exact hsp c hc
    · have := congrArg (fun x : ByteArray => x.data.toList.head?) e
      rw [ByteArray.data_append, Array.toList_append] at this
      simp [bangB, starB] at this

/-! ### arms that are read -/
def isInv (s : ByteArray) : Bool := decide (s.data.toList.head? = some 33)
def bareB (s : ByteArray) : ByteArray := if isInv s then s.extract 1 s.size else s
def arTo (l : List D) : List ByteArray → Nat → Nat → Option (Nat × Nat)
  | [], p, q => some (p, q)
  | s :: r, p, q => match l.find? (isNm (bareB s)) with
    | some d => if isInv s then arTo l r p (q ||| d.val.toNat) else arTo l r (p ||| d.val.toNat) q
    | none => none
def mPar (ds : List D) (b : Int) (s : ByteArray) : Option (Nat × Nat) :=
  if vFlag ds b then if s = starB then some (0, 0) else match arTo ds (splitT 32 s) 0 0 with
    | some r => if mArmOk ds b ⟨r.1, r.2⟩ && decide (mArmT ds b ⟨r.1, r.2⟩ = s) then some r else none
    | none => none
  else none
theorem bang_head (s : ByteArray) : (bangB ++ s).data.toList = 33 :: s.data.toList := by
  rw [ByteArray.data_append, Array.toList_append]
  rfl
theorem isInv_bang (s : ByteArray) : isInv (bangB ++ s) = true := by
  unfold isInv
  rw [bang_head]
  rfl
theorem bare_bang (s : ByteArray) : bareB (bangB ++ s) = s := by
  unfold bareB
  rw [isInv_bang, if_pos rfl]
  apply ByteArray.ext
  rw [ByteArray.data_extract, ByteArray.size_append]
  apply Array.ext'
  have h := bang_head s
  have e : (bangB.size + s.size) = (33 :: s.data.toList).length := by
    rw [List.length_cons, Array.length_toList]
    show 1 + s.size = s.size + 1
    omega
  rw [Array.toList_extract, h, e]
  simp only [List.extract_eq_take_drop, List.length_cons, Nat.add_sub_cancel, List.drop_succ_cons, List.drop_zero]
  exact List.take_of_length_le (Nat.le_refl _)
theorem name_plain {ds : List D} {b : Int} (hv : vFlag ds b = true) {d : D} (hd : d ∈ ds) : isInv d.name = false := by
  unfold isInv
  rw [decide_eq_false_iff_not]
  intro e
  have := fname_ok hv hd 33 (List.mem_of_mem_head? e)
  exact absurd this (by decide)
theorem bare_plain {s : ByteArray} (h : isInv s = false) : bareB s = s := by unfold bareB; rw [h]; rfl
theorem find_name {ds l : List D} {b : Int} (hv : vFlag ds b = true) (hl : ∀ d ∈ l, d ∈ ds) {d : D} (hd : d ∈ l) : l.find? (isNm d.name) = some d := by
  have huniq : ∀ x ∈ ds, isNm d.name x = true → x = d := by
    intro x hx hp
    obtain ⟨i, hi, rfl⟩ := List.mem_iff_getElem.1 hx
    obtain ⟨j, hj, hjd⟩ := List.mem_iff_getElem.1 (hl d hd)
    have h1 := fname_idx hv i hi
    have h2 := fname_idx hv j hj
    rw [isNm_iff] at hp
    rw [hp, ← hjd, h2] at h1
    have : j = i := by omega
    subst this
    exact hjd
  cases h : l.find? (isNm d.name) with
  | none =>
    rw [List.find?_eq_none] at h
    exact absurd (isNm_iff.2 rfl) (h d hd)
  | some x =>
    rw [huniq x (hl x (List.mem_of_find?_eq_some h)) (List.find?_some h)]
theorem arTo_sub {ds l : List D} {b : Int} (hv : vFlag ds b = true) (hl : ∀ d ∈ l, d ∈ ds) : ∀ (ws : List ByteArray) (p q : Nat) (r : Nat × Nat), arTo l ws p q = some r → arTo ds ws p q = some r
  | [], p, q, r, h => h
  | s :: ws, p, q, r, h => by
    rw [arTo] at h ⊢
    split at h
    · rename_i d hd
      have hm := List.mem_of_find?_eq_some hd
      have hn : d.name = bareB s := isNm_iff.1 (List.find?_some hd)
      have := find_name hv (l := ds) (fun x h => h) (hl d hm)
      rw [hn] at this
      rw [this]
      simp only
      split at h
      · rename_i hi; rw [if_pos hi]; exact arTo_sub hv hl ws _ _ r h
      · rename_i hi; rw [if_neg hi]; exact arTo_sub hv hl ws _ _ r h
    · cases h
theorem arTo_words {ds l2 : List D} {b : Int} (hv : vFlag ds b = true) (hl2 : ∀ d ∈ l2, d ∈ ds) {p q : Nat} (hpq : p &&& q = 0) : ∀ (l : List D) (x y : Nat), (∀ d ∈ l, d ∈ l2 ∧ ∃ i, d.val = ((2 ^ i : Nat) : Int)) → arTo l2 (wordsA p q l) x y = some (x ||| (p &&& mMask l), y ||| (q &&& mMask l))
  | [], x, y, _ => by rw [mMask_nil]; simp [wordsA, arTo]
  | d :: l, x, y, h => by
    obtain ⟨hd, i, hi⟩ := h d (List.mem_cons_self ..)
    have ih := fun x y => arTo_words hv hl2 hpq l x y (fun z hz => h z (List.mem_cons_of_mem _ hz))
    have e1 : wordsA p q (d :: l) = wordA p q d ++ wordsA p q l := by unfold wordsA; rw [List.flatMap_cons]
    have em : mMask (d :: l) = 2 ^ i ||| mMask l := by
      rw [show d :: l = [d] ++ l from rfl, mMask_app]
      congr 1
      show 0 ||| d.val.toNat = _
      rw [Nat.zero_or, hi, Int.toNat_natCast]
    have ev : d.val.toNat = 2 ^ i := by rw [hi, Int.toNat_natCast]
    have hfn := find_name hv hl2 hd
    have hpl := name_plain hv (hl2 d hd)
    have dist : ∀ z : Nat, z &&& (2 ^ i ||| mMask l) = (if z.testBit i then 2 ^ i else 0) ||| (z &&& mMask l) := by
      intro z
      apply Nat.eq_of_testBit_eq
      intro j
      by_cases hz : z.testBit i = true
      · rw [if_pos hz]
        simp only [Nat.testBit_and, Nat.testBit_or, pow_tb]
        by_cases e : i = j
        · subst e; simp [hz]
        · simp [e]
      · rw [if_neg hz]
        simp only [Nat.testBit_and, Nat.testBit_or, pow_tb, Nat.zero_testBit]
        by_cases e : i = j
        · subst e; simp [hz]
        · simp [e]
    rw [e1, em, dist p, dist q]
    by_cases hp : p.testBit i = true
    · have hq : ¬ q.testBit i = true := by
        intro hq
        have := congrArg (fun z => Nat.testBit z i) hpq
        simp [Nat.testBit_and, hp, hq] at this
      have ew : wordA p q d = [d.name] := by unfold wordA; rw [ev, if_pos ((and_pow p i).2 hp)]
      rw [ew, List.singleton_append, arTo, bare_plain hpl, hfn]
      simp only
      rw [if_neg (by rw [hpl]; exact Bool.false_ne_true), ih, ev, if_pos hp, if_neg hq, Nat.zero_or, Nat.or_assoc]
    · by_cases hq : q.testBit i = true
      · have ew : wordA p q d = [bangB ++ d.name] := by
          unfold wordA
          rw [ev, if_neg (fun h => hp ((and_pow p i).1 h)), if_pos ((and_pow q i).2 hq)]
        rw [ew, List.singleton_append, arTo, bare_bang, hfn]
        simp only
        rw [if_pos (isInv_bang _), ih, ev, if_neg hp, if_pos hq, Nat.zero_or, Nat.or_assoc]
      · have ew : wordA p q d = [] := by
          unfold wordA
          rw [ev, if_neg (fun h => hp ((and_pow p i).1 h)), if_neg (fun h => hq ((and_pow q i).1 h))]
        rw [ew, List.nil_append, ih, if_neg hp, if_neg hq, Nat.zero_or, Nat.zero_or]
theorem and_part {p m : Nat} (h : nl p m = 0) : p &&& m = p := by
  have := nl_add_and p m
  omega
/-- The words of an arm's text are read back, from the single names as from all. -/
theorem arTo_back {ds l2 : List D} {b : Int} (hv : vFlag ds b = true) (hl2 : ∀ d ∈ l2, d ∈ ds) (hsg : ∀ d ∈ mSg ds, d ∈ l2) {p q : Nat} (hpq : p &&& q = 0) (hp : nl p (mMask (mSg ds)) = 0) (hq : nl q (mMask (mSg ds)) = 0) : arTo l2 (wordsA p q (mSg ds)) 0 0 = some (p, q) := by
  rw [arTo_words hv hl2 hpq (mSg ds) 0 0 (fun d hd => ⟨hsg d hd, by obtain ⟨_, i, _, h⟩ := mSg_sub hd; exact ⟨i, h⟩⟩), Nat.zero_or, Nat.zero_or, and_part hp, and_part hq]
theorem text_split {ds : List D} {b : Int} (hv : vFlag ds b = true) {p q : Nat} (h : textA ds p q ≠ starB) : splitT 32 (textA ds p q) = wordsA p q (mSg ds) := by
  unfold textA at h ⊢
  split
  · rename_i h2
    rw [if_pos h2] at h
    exact absurd rfl h
  · rename_i h2
    exact split_join 32 h2 (fun x hx => (textA_words hv p q x hx).2.1)
/-- What the program reads of the single names is what the model reads of all names. -/
theorem mPar_sg {ds : List D} {b : Int} {s : ByteArray} (hv : vFlag ds b = true) (hs : s ≠ starB) : mPar ds b s = match arTo (mSg ds) (splitT 32 s) 0 0 with
    | some r => if mArmT ds b ⟨r.1, r.2⟩ = s then some r else none
    | none => none := by
  have hne : (⟨#[]⟩ : ByteArray) ≠ s → True := fun _ => trivial
  unfold mPar
  rw [if_pos hv, if_neg hs]
  cases h1 : arTo (mSg ds) (splitT 32 s) 0 0 with
  | some r =>
    have h2 := arTo_sub hv (fun d hd => (mSg_sub hd).1) _ _ _ _ h1
    rw [h2]
    simp only
    by_cases h3 : mArmT ds b ⟨r.1, r.2⟩ = s
    · have h4 : mArmOk ds b ⟨r.1, r.2⟩ = true := by
        cases h5 : mArmOk ds b ⟨r.1, r.2⟩
        · have h6 : s = ⟨#[]⟩ := by rw [← h3]; unfold mArmT; rw [h5]; rfl
          subst h6
          have h7 : arTo (mSg ds) (splitT 32 ⟨#[]⟩) 0 0 = none := by
            show arTo (mSg ds) [(⟨#[]⟩ : ByteArray)] 0 0 = none
            rw [arTo]
            have h8 : (mSg ds).find? (isNm (bareB ⟨#[]⟩)) = none := by
              rw [List.find?_eq_none]
              intro d hd e
              have e2 := isNm_iff.1 e
              exact fname_pos hv (mSg_sub hd).1 (by rw [e2]; rfl)
            rw [h8]
          rw [h7] at h1
          cases h1
        · rfl
      rw [h4, Bool.true_and, decide_eq_true h3, if_pos rfl, if_pos h3]
    · rw [decide_eq_false h3, Bool.and_false, if_neg h3]
      rfl
  | none =>
    simp only
    cases h2 : arTo ds (splitT 32 s) 0 0 with
    | none => rfl
    | some r =>
      simp only
      rw [if_neg]
      intro h3
      rw [Bool.and_eq_true, decide_eq_true_iff] at h3
      obtain ⟨_, p, q, e1, e2, hp4, hq4, hp, hq, hpq⟩ := mArmOk_nat h3.1
      have h5 : textA ds p q = s := by
        have h6 := h3.2
        unfold mArmT at h6
        rw [if_pos h3.1] at h6
        simp only at e1 e2
        have r1 : r.1 = p := by omega
        have r2 : r.2 = q := by omega
        rw [r1, r2, Int.toNat_natCast, Int.toNat_natCast] at h6
        exact h6
      have h6 := text_split hv (p := p) (q := q) (by rw [h5]; exact hs)
      rw [h5] at h6
      rw [h6, arTo_back hv (fun d hd => (mSg_sub hd).1) (fun d hd => hd) hpq hp hq] at h1
      cases h1
/-- The text of an arm is read back. -/
theorem mPar_text {ds : List D} {b : Int} {a : Ar} (h : mArmOk ds b a = true) : mPar ds b (mArmT ds b a) = some (a.all.toNat, a.non.toNat) := by
  obtain ⟨hv, p, q, e1, e2, hp4, hq4, hp, hq, hpq⟩ := mArmOk_nat h
  have ht : mArmT ds b a = textA ds p q := by unfold mArmT; rw [if_pos h, e1, e2, Int.toNat_natCast, Int.toNat_natCast]
  rw [ht, e1, e2, Int.toNat_natCast, Int.toNat_natCast]
  by_cases hs : textA ds p q = starB
  · unfold mPar
    rw [if_pos hv, if_pos hs]
    have hw : wordsA p q (mSg ds) = [] := by
      cases hw : wordsA p q (mSg ds) with
      | nil => rfl
      | cons x r =>
        exfalso
        unfold textA at hs
        rw [if_neg (by rw [hw]; simp)] at hs
        have h1 := split_join 32 (ws := wordsA p q (mSg ds)) (by rw [hw]; simp) (fun x hx => (textA_words hv p q x hx).2.1)
        rw [show (⟨#[32]⟩ : ByteArray) = spB from rfl, hs] at h1
        have h2 : splitT 32 starB = [starB] := rfl
        rw [h2] at h1
        exact (textA_words hv p q starB (by rw [← h1]; exact List.mem_cons_self ..)).2.2 rfl
    have h3 := arTo_back hv (fun d hd => (mSg_sub hd).1) (fun d hd => hd) hpq hp hq
    rw [hw, arTo] at h3
    exact h3
  · unfold mPar
    rw [if_pos hv, if_neg hs, text_split hv hs, arTo_back hv (fun d h => h) (fun d hd => (mSg_sub hd).1) hpq hp hq]
    simp only
    have ha : a = ⟨p, q⟩ := by cases a; simp only at e1 e2; subst e1 e2; rfl
    rw [← ha, h, Bool.true_and, ht, decide_eq_true rfl, if_pos rfl]
end Go.Proofs.Ytpmanbmhbfnefaa

namespace Go.Proofs.Ytpmanbmhbfnefaa
set_option linter.unusedVariables false

/-! ### arms that are read, step by step: no program in sight -/
theorem fnd_no {l : List D} {s : ByteArray} (h : noTo (isNm s) l l.length) : l.find? (isNm s) = none := by
  rw [List.find?_eq_none]
  intro d hd e
  obtain ⟨i, hi, rfl⟩ := List.mem_iff_getElem.1 hd
  have h2 := h i hi hi
  rw [e] at h2
  cases h2
theorem fnd_at {l : List D} {s : ByteArray} {k : Nat} (hk : k < l.length) (hp : isNm s l[k] = true) (h : noTo (isNm s) l k) : l.find? (isNm s) = some l[k] := by
  rw [List.find?_eq_some_iff_getElem]
  exact ⟨hp, k, hk, rfl, fun j hj => by rw [h j (by omega) hj]; rfl⟩
def arAt (l : List D) (ws : List ByteArray) (k p q : Nat) : Prop := arTo l ws 0 0 = arTo l (ws.drop k) p q
theorem arAt_zero (l : List D) (ws : List ByteArray) : arAt l ws 0 0 0 := by unfold arAt; rw [List.drop_zero]
theorem arAt_no {l : List D} {ws : List ByteArray} {k p q : Nat} (hlt : k < ws.length) (h : arAt l ws k p q) (hf : l.find? (isNm (bareB ws[k])) = none) : arTo l ws 0 0 = none := by
  unfold arAt at h
  rw [h, List.drop_eq_getElem_cons hlt, arTo, hf]
theorem arAt_inv {l : List D} {ws : List ByteArray} {k p q : Nat} {d : D} (hlt : k < ws.length) (h : arAt l ws k p q) (hf : l.find? (isNm (bareB ws[k])) = some d) (hi : isInv ws[k] = true) : arAt l ws (k + 1) p (q ||| d.val.toNat) := by
  unfold arAt at h ⊢
  rw [h, List.drop_eq_getElem_cons hlt, arTo, hf]
  simp only
  rw [if_pos hi]
theorem arAt_not {l : List D} {ws : List ByteArray} {k p q : Nat} {d : D} (hlt : k < ws.length) (h : arAt l ws k p q) (hf : l.find? (isNm (bareB ws[k])) = some d) (hi : isInv ws[k] = false) : arAt l ws (k + 1) (p ||| d.val.toNat) q := by
  unfold arAt at h ⊢
  rw [h, List.drop_eq_getElem_cons hlt, arTo, hf]
  simp only
  rw [if_neg (by rw [hi]; exact Bool.false_ne_true)]
theorem arAt_end {l : List D} {ws : List ByteArray} {p q : Nat} (h : arAt l ws ws.length p q) : arTo l ws 0 0 = some (p, q) := by
  unfold arAt at h
  rw [h, List.drop_length, arTo]
def arV (l : List D) (s : ByteArray) : Option (Nat × Nat) := if s = starB then some (0, 0) else arTo l (splitT 32 s) 0 0
/-- What is told of a text that is read: both numbers, and whether there are some. -/
structure ArR (r : Option (Nat × Nat)) (x y : Nat) (v : Bool) : Prop where
  yes : ∀ p q, r = some (p, q) → x = p ∧ y = q ∧ v = true
  no : r = none → x = 0 ∧ y = 0 ∧ v = false
theorem arR_of (r : Option (Nat × Nat)) : ArR r (r.getD (0, 0)).1 (r.getD (0, 0)).2 r.isSome := by
  cases r with
  | none => exact ⟨fun p q h => (by cases h), fun _ => ⟨rfl, rfl, rfl⟩⟩
  | some z => exact ⟨fun p q h => (by cases h; exact ⟨rfl, rfl, rfl⟩), fun h => (by cases h)⟩
theorem bareB_size (s : ByteArray) : (bareB s).size ≤ s.size := by
  unfold bareB
  split
  · rw [ByteArray.size_extract]; omega
  · exact Nat.le_refl _
theorem pre_bang (s : ByteArray) : Lib.hasPrefix s.data.toList (⟨#[33]⟩ : ByteArray).data.toList = isInv s := by
  unfold Lib.hasPrefix isInv
  cases s.data.toList with
  | nil => rfl
  | cons c r =>
    by_cases h : c = 33
    · subst h
      simp [List.isPrefixOf]
    · have h2 : ¬ (33 : UInt8) = c := fun e => h e.symm
      simp [List.isPrefixOf, h, h2]
theorem trim_bang (s : ByteArray) : (⟨(Lib.trimPrefix s.data.toList (⟨#[33]⟩ : ByteArray).data.toList).toArray⟩ : ByteArray) = bareB s := by
  unfold Lib.trimPrefix bareB
  rw [pre_bang]
  cases isInv s
  · rw [if_neg Bool.false_ne_true, if_neg Bool.false_ne_true]
  · rw [if_pos rfl, if_pos rfl]
    apply ByteArray.ext
    rw [ByteArray.data_extract]
    apply Array.ext'
    rw [Array.toList_extract, List.extract_eq_take_drop]
    show List.drop 1 s.data.toList = _
    rw [List.take_of_length_le]
    rw [List.length_drop, Array.length_toList]
    exact Nat.le_refl _
end Go.Proofs.Ytpmanbmhbfnefaa

namespace Go.Proofs.Ytpmanbmhbfnefaa
set_option linter.unusedVariables false

theorem wordsA_zero (l : List D) : wordsA 0 0 l = [] := by
  induction l with
  | nil => rfl
  | cons d r ih =>
    unfold wordsA at ih ⊢
    rw [List.flatMap_cons, ih]
    have : wordA 0 0 d = [] := by
      unfold wordA
      rw [Nat.and_zero, if_neg (by simp), if_neg (by simp)]
    rw [this, List.nil_append]
theorem mArmT_zero {ds : List D} {b : Int} (hv : vFlag ds b = true) : mArmT ds b ⟨0, 0⟩ = starB := by
  have h1 : fitsA (mMask (mSg ds)) ⟨0, 0⟩ = true := fitsA_of (p := 0) (q := 0) (nl_zero.2 fun i hi => by simp at hi) (nl_zero.2 fun i hi => by simp at hi) rfl
  have h2 : mArmOk ds b ⟨0, 0⟩ = true := by unfold mArmOk; rw [hv, h1]; rfl
  unfold mArmT
  rw [if_pos h2]
  show textA ds 0 0 = starB
  unfold textA
  rw [if_pos (wordsA_zero _)]
theorem mPar_arV {ds : List D} {b : Int} {s : ByteArray} (hv : vFlag ds b = true) : mPar ds b s = match arV (mSg ds) s with
    | some r => if mArmT ds b ⟨r.1, r.2⟩ = s then some r else none
    | none => none := by
  by_cases hs : s = starB
  · subst hs
    unfold mPar arV
    rw [if_pos hv, if_pos rfl, if_pos rfl]
    have h := mArmT_zero hv
    show some (0, 0) = if mArmT ds b ⟨((0 : Nat) : Int), ((0 : Nat) : Int)⟩ = starB then some (0, 0) else none
    exact (if_pos h).symm
  · rw [mPar_sg hv hs]
    unfold arV
    rw [if_neg hs]
    all_goals (cases arTo (mSg ds) (splitT 32 s) 0 0 <;> rfl)
theorem arTo_lt {l : List D} (hin : ∀ d ∈ l, inR d) : ∀ (ws : List ByteArray) (p q : Nat) (r : Nat × Nat), p < 4096 → q < 4096 → arTo l ws p q = some r → r.1 < 4096 ∧ r.2 < 4096
  | [], p, q, r, hp, hq, h => by rw [arTo] at h; cases h; exact ⟨hp, hq⟩
  | s :: ws, p, q, r, hp, hq, h => by
    rw [arTo] at h
    split at h
    · rename_i d hd
      have hi := hin d (List.mem_of_find?_eq_some hd)
      have h4 : d.val.toNat < 4096 := by unfold inR at hi; omega
      split at h
      · exact arTo_lt hin ws _ _ r hp (or_lt hq h4) h
      · exact arTo_lt hin ws _ _ r (or_lt hp h4) hq h
    · cases h
theorem arV_lt {l : List D} (hin : ∀ d ∈ l, inR d) {s : ByteArray} {r : Nat × Nat} (h : arV l s = some r) : r.1 < 4096 ∧ r.2 < 4096 := by
  unfold arV at h
  split at h
  · cases h; exact ⟨by show 0 < 4096; omega, by show 0 < 4096; omega⟩
  · exact arTo_lt hin _ _ _ r (by omega) (by omega) h
theorem arR_lt {l : List D} (hin : ∀ d ∈ l, inR d) {s : ByteArray} {x y : Nat} {v : Bool} (h : ArR (arV l s) x y v) : x < 4096 ∧ y < 4096 := by
  cases e : arV l s with
  | none => obtain ⟨rfl, rfl, _⟩ := h.no e; omega
  | some r =>
    obtain ⟨rfl, rfl, _⟩ := h.yes r.1 r.2 e
    exact arV_lt hin e
/-- What the program's ParseArm makes of what it has read. -/
theorem par_no {ds : List D} {b : Int} {s : ByteArray} (hv : vFlag ds b = true) {x y : Nat} (h : ArR (arV (mSg ds) s) x y false) : mPar ds b s = none := by
  rw [mPar_arV hv]
  cases e : arV (mSg ds) s with
  | none => rfl
  | some r => have := (h.yes r.1 r.2 e).2.2; cases this
theorem par_yes {ds : List D} {b : Int} {s : ByteArray} (hv : vFlag ds b = true) {x y : Nat} (h : ArR (arV (mSg ds) s) x y true) : mPar ds b s = if mArmT ds b ⟨x, y⟩ = s then some (x, y) else none := by
  rw [mPar_arV hv]
  cases e : arV (mSg ds) s with
  | none => have := (h.no e).2.2; cases this
  | some r =>
    obtain ⟨rfl, rfl, _⟩ := h.yes r.1 r.2 e
    rfl
end Go.Proofs.Ytpmanbmhbfnefaa

