import Derived.Test.YtboehlffbibgmaaGreatDoorFewP
import Derived.Test.YtboehlffbibgmaaGreatDoorLFit
import Derived.Test.YtboehlffbibgmaaGreatDoorLAlgN
import Derived.Test.YtboehlffbibgmaaGreatDoorLAlg
import Derived.Test.YtboehlffbibgmaaGreatDoorArmP
namespace Go.Proofs.YtboehlffbibgmaaGreatDoor
open Go.RowKit Go.Maps
set_option linter.unusedVariables false
set_option maxRecDepth 100000

/-! ### what the law of short names asks -/
theorem few_bits : ∀ {l : List D} {n a : Nat} {m : List D}, few l n a = some m → nl a (mMask m) = 0 ∧ m.Sublist l := by
  intro l
  induction l with
  | nil =>
    intro n a m h
    cases n with
    | zero =>
      rw [few_zero] at h
      split at h
      · rename_i h0; cases h; subst h0; exact ⟨nl_nil _, List.Sublist.refl _⟩
      · cases h
    | succ n => cases h
  | cons d r ih =>
    intro n a m h
    cases n with
    | zero =>
      rw [few_zero] at h
      split at h
      · rename_i h0; cases h; subst h0; exact ⟨nl_nil _, List.nil_sublist _⟩
      · cases h
    | succ n =>
      rw [few_cons] at h
      split at h
      · rename_i m2 h2
        cases h
        obtain ⟨h3, h4⟩ := ih h2
        refine ⟨?_, h4.cons_cons d⟩
        rw [nl_zero] at h3 ⊢
        intro i hi
        rw [mMask_tb, List.any_cons]
        cases hd : d.val.toNat.testBit i
        · have := h3 i (by rw [tb_nl, hi, hd]; rfl)
          rw [mMask_tb] at this
          rw [this]; rfl
        · rfl
      · obtain ⟨h3, h4⟩ := ih h
        exact ⟨h3, h4.cons d⟩
theorem few_some : ∀ {l m : List D}, m.Sublist l → ∀ {a : Nat}, nl a (mMask m) = 0 → few l m.length a ≠ none := by
  intro l m hs
  induction hs with
  | slnil =>
    intro a h
    have : a = 0 := by rw [mMask_nil, nl_zero] at h; apply Nat.eq_of_testBit_eq; intro i; rw [Nat.zero_testBit]; cases hi : a.testBit i; rfl; have := h i hi; rw [Nat.zero_testBit] at this; cases this
    subst this
    rw [List.length_nil, few_zero, if_pos rfl]; simp
  | cons d hs ih =>
    intro a h
    rename_i m2 l2
    cases hm : m2.length with
    | zero => 
      have := ih h
      rw [hm, few_zero] at this
      rw [few_zero]; exact this
    | succ n =>
      rw [few_cons]
      have := ih h
      rw [hm] at this
      split
      · simp
      · exact this
  | cons_cons d hs ih =>
    intro a h
    rename_i m2 l2
    show few (d :: l2) (m2.length + 1) a ≠ none
    rw [few_cons]
    have h2 : nl (nl a d.val.toNat) (mMask m2) = 0 := by
      rw [nl_zero] at h ⊢
      intro i hi
      rw [tb_nl, Bool.and_eq_true] at hi
      have := h i hi.1
      rw [mMask_tb, List.any_cons] at this
      rw [mMask_tb]
      have h3 := hi.2
      cases hd : d.val.toNat.testBit i
      · rw [hd] at this; simpa using this
      · rw [hd] at h3; cases h3
    have := ih h2
    split
    · simp
    · rename_i h3; exact absurd h3 this
theorem fewUp_none {l : List D} {w : Nat} : ∀ {k j : Nat}, fewUp l w k = none → j < k → few l j w = none
  | 0, j, h, hj => by omega
  | k + 1, j, h, hj => by
    unfold fewUp at h
    split at h
    · cases h
    · rename_i h1
      by_cases he : j = k
      · subst he; exact h
      · exact fewUp_none h1 (by omega)
theorem fewUp_some {l m : List D} {w : Nat} : ∀ {k : Nat}, fewUp l w k = some m → few l m.length w = some m ∧ ∀ j, j < m.length → few l j w = none
  | 0, h => by cases h
  | k + 1, h => by
    unfold fewUp at h
    split at h
    · rename_i m2 h1
      cases h
      exact fewUp_some h1
    · rename_i h1
      have hk := (few_len h).1
      rw [hk]
      exact ⟨h, fun j hj => fewUp_none h1 hj⟩
/-- What the shortest choice is. -/
theorem short_min (l : List D) : few l (mShortL l).length (mMask l) = some (mShortL l) ∧ ∀ j, j < (mShortL l).length → few l j (mMask l) = none := by
  unfold mShortL
  cases h : fewUp l (mMask l) l.length with
  | some m => exact fewUp_some h
  | none => exact ⟨few_full (nl_zero.2 fun i h => h), fun j hj => fewUp_none h hj⟩
theorem mask_sub {m l : List D} (h : ∀ d ∈ m, d ∈ l) : nl (mMask m) (mMask l) = 0 := by
  rw [nl_zero]
  intro i hi
  rw [mMask_tb, List.any_eq_true] at hi ⊢
  obtain ⟨d, hd, hb⟩ := hi
  exact ⟨d, h d hd, hb⟩
theorem nl_two {p q : Nat} (h1 : nl p q = 0) (h2 : nl q p = 0) : p = q := by
  apply Nat.eq_of_testBit_eq
  intro i
  rw [nl_zero] at h1 h2
  cases hp : p.testBit i <;> cases hq : q.testBit i <;> first | rfl | (have := h1 i hp; rw [hq] at this; cases this) | (have := h2 i hq; rw [hp] at this; cases this)
theorem short_mask (l : List D) : mMask (mShortL l) = mMask l := nl_two (mask_sub (mShortL_mem l).2) (few_bits (short_min l).1).1
theorem short_erase (l : List D) (k : Nat) (hk : k < (mShortL l).length) : mMask ((mShortL l).eraseIdx k) ≠ mMask l := by
  intro h
  have hs : ((mShortL l).eraseIdx k).Sublist l := (List.eraseIdx_sublist _ _).trans (few_bits (short_min l).1).2
  have hl : ((mShortL l).eraseIdx k).length = (mShortL l).length - 1 := List.length_eraseIdx_of_lt hk
  have := few_some hs (a := mMask l) (by rw [h]; exact nl_zero.2 fun i h => h)
  rw [hl] at this
  exact this ((short_min l).2 _ (by omega))
theorem popc_mono2 {a c : Nat} (h : nl a c = 0) : popc a ≤ popc c := by have := popc_nl h; omega
/-- Those that add a bit. -/
def greedy : List D → Nat → List D
  | [], _ => []
  | d :: r, acc => if nl d.val.toNat acc = 0 then greedy r acc else d :: greedy r (acc ||| d.val.toNat)
theorem greedy_law : ∀ (l : List D) (acc : Nat), (greedy l acc).Sublist l ∧ nl (mMask l) (acc ||| mMask (greedy l acc)) = 0 ∧ (greedy l acc).length + popc acc ≤ popc (acc ||| mMask l) := by
  intro l
  induction l with
  | nil => intro acc; refine ⟨List.Sublist.refl _, nl_nil _, ?_⟩; show 0 + popc acc ≤ popc (acc ||| mMask []); rw [mMask_nil, Nat.or_zero]; omega
  | cons d r ih =>
    intro acc
    unfold greedy
    by_cases h : nl d.val.toNat acc = 0
    · rw [if_pos h]
      obtain ⟨h1, h2, h3⟩ := ih acc
      refine ⟨h1.cons d, ?_, ?_⟩
      · rw [nl_zero] at h h2 ⊢
        intro i hi
        rw [mMask_tb, List.any_cons, Bool.or_eq_true] at hi
        rcases hi with hi | hi
        · rw [Nat.testBit_or, h i hi]; rfl
        · exact h2 i (by rw [mMask_tb]; exact hi)
      · refine Nat.le_trans h3 (popc_mono2 ?_)
        rw [nl_zero]
        intro i hi
        rw [Nat.testBit_or, Bool.or_eq_true] at hi ⊢
        rcases hi with hi | hi
        · exact .inl hi
        · right; rw [mMask_tb, List.any_cons] at *; rw [hi, Bool.or_true]
    · rw [if_neg h]
      obtain ⟨h1, h2, h3⟩ := ih (acc ||| d.val.toNat)
      refine ⟨h1.cons_cons d, ?_, ?_⟩
      · rw [nl_zero] at h2 ⊢
        intro i hi
        rw [mMask_tb, List.any_cons, Bool.or_eq_true] at hi
        rw [Nat.testBit_or, mMask_tb, List.any_cons]
        rcases hi with hi | hi
        · rw [hi]; simp
        · have := h2 i (by rw [mMask_tb]; exact hi)
          rw [Nat.testBit_or, Nat.testBit_or, mMask_tb] at this
          simpa [Bool.or_assoc] using this
      · have hq : nl acc (acc ||| d.val.toNat) = 0 := nl_zero.2 fun i hi => by rw [Nat.testBit_or, hi]; rfl
        have hp := popc_nl hq
        have hne : nl (acc ||| d.val.toNat) acc ≠ 0 := by
          intro h0
          apply h
          rw [nl_zero] at h0 ⊢
          intro i hi
          exact h0 i (by rw [Nat.testBit_or, hi, Bool.or_true])
        have h0 : popc (nl (acc ||| d.val.toNat) acc) ≠ 0 := fun e => hne ((popc_zero_iff _).1 e)
        have hm : popc (acc ||| d.val.toNat ||| mMask r) ≤ popc (acc ||| mMask (d :: r)) := popc_mono2 (by
          rw [nl_zero]
          intro i hi
          rw [Nat.testBit_or, Nat.testBit_or, mMask_tb] at hi
          rw [Nat.testBit_or, mMask_tb, List.any_cons]
          simpa [Bool.or_assoc] using hi)
        show (greedy r (acc ||| d.val.toNat)).length + 1 + popc acc ≤ _
        omega
theorem short_count (l : List D) : (mShortL l).length ≤ popc (mMask l) := by
  obtain ⟨h1, h2, h3⟩ := greedy_law l 0
  rw [Nat.zero_or] at h2
  rw [Nat.zero_or, popc_zero] at h3
  have h4 := few_some h1 h2
  by_cases h : (greedy l 0).length < (mShortL l).length
  · exact absurd ((short_min l).2 _ h) h4
  · omega
end Go.Proofs.YtboehlffbibgmaaGreatDoor
