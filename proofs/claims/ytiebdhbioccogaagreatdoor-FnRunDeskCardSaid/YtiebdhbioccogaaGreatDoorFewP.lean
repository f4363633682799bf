import Derived.Test.YtiebdhbioccogaaGreatDoorFitP
namespace Go.Proofs.YtiebdhbioccogaaGreatDoor
set_option linter.unusedVariables false

/-! ### the fewest definitions: no program in sight -/
/-- The first n of a list, in its order, that have all bits of a together. -/
def few : List D → Nat → Nat → Option (List D)
  | [], n, a => if n = 0 then (if a = 0 then some [] else none) else none
  | d :: r, n, a => if n = 0 then (if a = 0 then some [] else none) else match few r (n - 1) (nl a d.val.toNat) with
    | some m => some (d :: m)
    | none => few r n a
theorem few_zero (l : List D) (a : Nat) : few l 0 a = if a = 0 then some [] else none := by cases l <;> rfl
theorem few_nil (n a : Nat) : few [] (n + 1) a = none := rfl
theorem few_cons (d : D) (r : List D) (n a : Nat) : few (d :: r) (n + 1) a = match few r n (nl a d.val.toNat) with
    | some m => some (d :: m)
    | none => few r (n + 1) a := rfl
theorem few_at {l : List D} {k : Nat} (h : k < l.length) (n a : Nat) : few (l.drop k) (n + 1) a = match few (l.drop (k + 1)) n (nl a l[k].val.toNat) with
    | some m => some (l[k] :: m)
    | none => few (l.drop (k + 1)) (n + 1) a := by
  rw [List.drop_eq_getElem_cons h, few_cons]
theorem few_len : ∀ {l : List D} {n a : Nat} {m : List D}, few l n a = some m → m.length = n ∧ ∀ d ∈ m, d ∈ l := by
  intro l
  induction l with
  | nil =>
    intro n a m h
    cases n with
    | zero => rw [few_zero] at h; split at h <;> cases h; exact ⟨rfl, by simp⟩
    | succ n => cases h
  | cons d r ih =>
    intro n a m h
    cases n with
    | zero => rw [few_zero] at h; split at h <;> cases h; exact ⟨rfl, by simp⟩
    | succ n =>
      rw [few_cons] at h
      split at h
      · rename_i m2 h2
        cases h
        obtain ⟨h3, h4⟩ := ih h2
        exact ⟨by simp [h3], fun x hx => by
          rcases List.mem_cons.1 hx with rfl | hx
          · simp
          · exact List.mem_cons_of_mem _ (h4 x hx)⟩
      · obtain ⟨h3, h4⟩ := ih h
        exact ⟨h3, fun x hx => List.mem_cons_of_mem _ (h4 x hx)⟩
theorem few_full : ∀ {l : List D} {a : Nat}, nl a (mMask l) = 0 → few l l.length a = some l := by
  intro l
  induction l with
  | nil =>
    intro a h
    have : a = 0 := by rw [mMask_nil] at h; rw [nl_zero] at h; apply Nat.eq_of_testBit_eq; intro i; rw [Nat.zero_testBit]; cases hi : a.testBit i; rfl; have := h i hi; rw [Nat.zero_testBit] at this; cases this
    subst this; rfl
  | cons d r ih =>
    intro a h
    have h2 : nl (nl a d.val.toNat) (mMask r) = 0 := by
      rw [nl_zero] at h ⊢
      intro i hi
      rw [tb_nl, Bool.and_eq_true] at hi
      have := h i hi.1
      rw [mMask_tb, List.any_cons] at this
      rw [mMask_tb]
      have h3 := hi.2
      cases hd : d.val.toNat.testBit i
      · rw [hd] at this; simpa using this
      · rw [hd] at h3; cases h3
    show few (d :: r) (r.length + 1) a = _
    rw [few_cons, ih h2]
/-- The first answer of the counts 0, .., k - 1. -/
def fewUp (l : List D) (w : Nat) : Nat → Option (List D)
  | 0 => none
  | k + 1 => match fewUp l w k with
    | some m => some m
    | none => few l k w
def mShortL (l : List D) : List D := (fewUp l (mMask l) l.length).getD l
theorem fewUp_all (l : List D) : fewUp l (mMask l) (l.length + 1) = some (mShortL l) := by
  show (match fewUp l (mMask l) l.length with | some m => some m | none => few l l.length (mMask l)) = _
  unfold mShortL
  cases h : fewUp l (mMask l) l.length with
  | some m => rfl
  | none =>
    show few l l.length (mMask l) = some l
    exact few_full (nl_zero.2 fun i h => h)
theorem fewUp_mem {l : List D} {w : Nat} : ∀ {k : Nat} {m : List D}, fewUp l w k = some m → m.length ≤ k ∧ ∀ d ∈ m, d ∈ l
  | 0, m, h => by cases h
  | k + 1, m, h => by
    unfold fewUp at h
    split at h
    · rename_i m2 h2
      cases h
      obtain ⟨h3, h4⟩ := fewUp_mem h2
      exact ⟨by omega, h4⟩
    · obtain ⟨h3, h4⟩ := few_len h
      exact ⟨by omega, h4⟩
theorem mShortL_mem (l : List D) : (mShortL l).length ≤ l.length ∧ ∀ d ∈ mShortL l, d ∈ l := by
  unfold mShortL
  cases h : fewUp l (mMask l) l.length with
  | none => exact ⟨Nat.le_refl _, fun d h => h⟩
  | some m => exact fewUp_mem h
def mShortN (ds : List D) (b x : Int) : List ByteArray := if mIsV ds b x then (mShortL (mFit ds x.toNat)).map (·.name) else []
theorem mShortN_len (ds : List D) (b x : Int) : (mShortN ds b x).length ≤ 12 := by
  unfold mShortN
  cases hv : mIsV ds b x
  · exact Nat.zero_le _
  · show ((mShortL (mFit ds x.toNat)).map _).length ≤ 12
    rw [List.length_map]
    exact Nat.le_trans (mShortL_mem _).1 (Nat.le_trans (mFit_len _ _) (vFlag_len (mIsV_flag hv)))
theorem mShortN_ok {ds : List D} {b x : Int} (h : ∀ d ∈ ds, d.ok) : ∀ s ∈ mShortN ds b x, s.size ≤ maxLen := by
  intro s hs
  unfold mShortN at hs
  cases hv : mIsV ds b x
  · rw [hv] at hs; cases hs
  · rw [hv] at hs
    obtain ⟨d, hd, rfl⟩ := List.mem_map.1 hs
    exact (h d (mFit_mem ((mShortL_mem _).2 d hd))).1
end Go.Proofs.YtiebdhbioccogaaGreatDoor
