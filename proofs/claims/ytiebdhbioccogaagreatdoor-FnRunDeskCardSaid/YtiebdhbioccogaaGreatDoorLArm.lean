import Derived.Test.YtiebdhbioccogaaGreatDoorArmP
namespace Go.Proofs.YtiebdhbioccogaaGreatDoor
open Go.RowKit Go.Maps
set_option linter.unusedVariables false
set_option maxRecDepth 100000

/-! ### plain facts for the laws of chapter 6 -/
theorem fitsN_is {m p q : Nat} : fitsN m p q = true ↔ nl p m = 0 ∧ nl q m = 0 ∧ p &&& q = 0 := by
  unfold fitsN; simp only [Bool.and_eq_true, decide_eq_true_eq]
  exact ⟨fun h => ⟨h.1.1, h.1.2, h.2⟩, fun h => ⟨⟨h.1, h.2.1⟩, h.2.2⟩⟩
theorem fitsA_of {m p q : Nat} (h1 : nl p m = 0) (h2 : nl q m = 0) (h3 : p &&& q = 0) : fitsA m ⟨p, q⟩ = true := by
  unfold fitsA
  rw [decide_eq_true (show (0 : Int) ≤ (p : Int) by omega), decide_eq_true (show (0 : Int) ≤ (q : Int) by omega)]
  simp only [Bool.true_and, Int.toNat_natCast]
  exact fitsN_is.2 ⟨h1, h2, h3⟩
theorem nl_nil (m : Nat) : nl 0 m = 0 := nl_zero.2 fun i hi => by rw [Nat.zero_testBit] at hi; cases hi
theorem arm_of {ds : List D} {b : Int} {p q : Nat} (hv : vFlag ds b = true) (h1 : nl p (mMask ds) = 0) (h2 : nl q (mMask ds) = 0) (h3 : p &&& q = 0) : mArm ds b ⟨p, q⟩ = true := by
  unfold mArm; rw [hv, fitsA_of h1 h2 h3]; rfl
theorem arm_nat {ds : List D} {b x y : Int} (h : mArm ds b ⟨x, y⟩ = true) : ∃ p q : Nat, x = p ∧ y = q ∧ p < 4096 ∧ q < 4096 ∧ nl p (mMask ds) = 0 ∧ nl q (mMask ds) = 0 ∧ p &&& q = 0 ∧ vFlag ds b = true := by
  obtain ⟨p, q, h1, h2, h3, h4, h5, h6, h7⟩ := mArm_nat h
  exact ⟨p, q, h1, h2, h3, h4, h5, h6, h7, mArm_flag h⟩
theorem v_part {ds : List D} {b : Int} {p : Nat} (hv : vFlag ds b = true) (h1 : nl p (mMask ds) = 0) : mIsV ds b (p : Nat) = true :=
  mIsV_of hv (by have := part_le h1; have := mMask_lt12 (vFlag_in hv); omega) (.inr h1)
/-- Two numbers have no bit in common. -/
theorem and_zero {a c : Nat} : a &&& c = 0 ↔ ∀ i, a.testBit i = true → c.testBit i = false := by
  constructor
  · intro h i hi
    have := congrArg (fun x => x.testBit i) h
    simp only [Nat.testBit_and, Nat.zero_testBit, hi, Bool.true_and] at this
    exact this
  · intro h
    apply tb_ext; intro i
    rw [Nat.testBit_and, Nat.zero_testBit]
    cases ha : a.testBit i
    · rfl
    · rw [h i ha]; rfl
theorem match_is {ds : List D} {b : Int} {p q n : Nat} (ha : mArm ds b ⟨p, q⟩ = true) (hn : mIsV ds b (n : Nat) = true) {v : Bool} (h : matchN p q n = v) : mMatch ds b ⟨p, q⟩ (n : Nat) = v := by
  unfold mMatch matchA; rw [ha, hn]; simpa using h
theorem match_iff {p q n : Nat} : matchN p q n = true ↔ nl p n = 0 ∧ n &&& q = 0 := by unfold matchN; simp only [Bool.and_eq_true, decide_eq_true_eq]
theorem match_self {p q : Nat} (h : p &&& q = 0) : matchN p q p = true := match_iff.2 ⟨part_self p, h⟩
theorem match_not {m p q : Nat} (hp : nl p m = 0) (h : p &&& q = 0) : matchN p q (nl m q) = true := by
  refine match_iff.2 ⟨?_, bl1 m q⟩
  rw [nl_zero] at *
  intro i hi
  rw [tb_nl, hp i hi, (and_zero.1 h) i hi]; rfl
theorem not_part (m q : Nat) : nl (nl m q) m = 0 := bl3 m q
theorem meet_is {ds : List D} {b : Int} {p q r s : Nat} (ha : mArm ds b ⟨p, q⟩ = true) (hc : mArm ds b ⟨r, s⟩ = true) {v : Bool} (h : meetN p q r s = v) : mMeet ds b ⟨p, q⟩ ⟨r, s⟩ = v := by
  unfold mMeet mTwoArms; rw [ha, hc]; simpa using h
theorem cover_is {ds : List D} {b : Int} {p q r s : Nat} (ha : mArm ds b ⟨p, q⟩ = true) (hc : mArm ds b ⟨r, s⟩ = true) {v : Bool} (h : coverN p q r s = v) : mCover ds b ⟨p, q⟩ ⟨r, s⟩ = v := by
  unfold mCover mTwoArms; rw [ha, hc]; simpa using h
theorem count_is {ds : List D} {b : Int} {p q : Nat} (ha : mArm ds b ⟨p, q⟩ = true) {r : Nat} (h : 2 ^ popc (nl (mMask ds) (p ||| q)) = r) : mCountA ds b ⟨p, q⟩ = (r : Int) := by
  unfold mCountA; rw [ha, if_pos rfl, ← h]; simp
theorem meet_self {p q : Nat} (h : p &&& q = 0) : meetN p q p q = true := by unfold meetN; rw [h, Nat.and_comm q p, h]; rfl
theorem meet_comm (p q r s : Nat) : meetN r s p q = meetN p q r s := by
  unfold meetN; rw [Nat.and_comm r q, Nat.and_comm s p, Bool.and_comm]
theorem meet_ends {p q r s : Nat} (h1 : p &&& q = 0) (h2 : r &&& s = 0) : meetN p q r s = (matchN p q (p ||| r) && matchN r s (p ||| r)) := by
  have e1 : ((p ||| r) &&& q = 0) ↔ q &&& r = 0 := by
    rw [and_zero, and_zero] at *
    constructor
    · intro h i hi
      cases hr : r.testBit i
      · rfl
      · have := h i (by rw [Nat.testBit_or, hr]; simp)
        rw [hi] at this; exact this
    · intro h i hi
      rw [Nat.testBit_or, Bool.or_eq_true] at hi
      rcases hi with hi | hi
      · exact h1 i hi
      · cases hq : q.testBit i
        · rfl
        · have := h i hq; rw [hi] at this; cases this
  have e2 : ((p ||| r) &&& s = 0) ↔ p &&& s = 0 := by
    rw [and_zero, and_zero] at *
    constructor
    · intro h i hi
      exact h i (by rw [Nat.testBit_or, hi]; rfl)
    · intro h i hi
      rw [Nat.testBit_or, Bool.or_eq_true] at hi
      rcases hi with hi | hi
      · exact h i hi
      · exact h2 i hi
  rw [Bool.eq_iff_iff]
  unfold meetN matchN
  simp only [Bool.and_eq_true, decide_eq_true_eq, e1, e2, bo1, bo2]
  constructor
  · rintro ⟨h3, h4⟩; exact ⟨⟨trivial, h4⟩, trivial, h3⟩
  · rintro ⟨⟨_, h4⟩, _, h3⟩; exact ⟨h3, h4⟩
theorem cover_ends {m p q r s : Nat} (hp : nl p m = 0) (hq : nl q m = 0) (hr : nl r m = 0) (h1 : p &&& q = 0) (h2 : r &&& s = 0) : coverN p q r s = (matchN p q r && matchN p q (nl m s)) := by
  rw [Bool.eq_iff_iff]
  unfold coverN matchN
  simp only [Bool.and_eq_true, decide_eq_true_eq]
  simp only [nl_zero, and_zero, tb_nl, Bool.and_eq_true, Bool.not_eq_true'] at *
  constructor
  · rintro ⟨h3, h4⟩
    refine ⟨⟨h3, fun i hi => ?_⟩, fun i hi => ⟨hp i hi, h2 i (h3 i hi)⟩, fun i hi => ?_⟩
    · cases e : q.testBit i
      · rfl
      · have := h4 i e; rw [h2 i hi] at this; cases this
    · cases e : q.testBit i
      · rfl
      · have := h4 i e; rw [hi.2] at this; cases this
  · rintro ⟨⟨h3, _⟩, _, h5⟩
    refine ⟨h3, fun i hi => ?_⟩
    cases e : s.testBit i
    · have := h5 i ⟨hq i hi, e⟩; rw [hi] at this; cases this
    · rfl
theorem cover_meet {p q r s : Nat} (h : coverN p q r s = true) (h2 : r &&& s = 0) : meetN p q r s = true := by
  unfold coverN at h
  unfold meetN
  simp only [Bool.and_eq_true, decide_eq_true_eq] at *
  simp only [nl_zero, and_zero] at *
  refine ⟨fun i hi => h2 i (h.1 i hi), fun i hi => ?_⟩
  cases e : r.testBit i
  · rfl
  · have := h2 i e; rw [h.2 i hi] at this; cases this
theorem popc_mono {a c : Nat} (h : nl a c = 0) : popc a ≤ popc c := by have := popc_nl h; omega
theorem cover_count {m p q r s : Nat} (h : coverN p q r s = true) : 2 ^ popc (nl m (r ||| s)) ≤ 2 ^ popc (nl m (p ||| q)) := by
  refine Nat.pow_le_pow_right (by decide) (popc_mono ?_)
  unfold coverN at h
  simp only [Bool.and_eq_true, decide_eq_true_eq] at h
  simp only [nl_zero, tb_nl, Nat.testBit_or, Bool.and_eq_true, Bool.not_eq_true', Bool.or_eq_false_iff] at *
  rintro i ⟨h1, h2, h3⟩
  refine ⟨h1, ?_, ?_⟩
  · cases e : p.testBit i
    · rfl
    · have := h.1 i e; rw [h2] at this; cases this
  · cases e : q.testBit i
    · rfl
    · have := h.2 i e; rw [h3] at this; cases this
theorem add_is_or {p q : Nat} (h : p &&& q = 0) : p + q = p ||| q := by have := or_add_and p q; omega
/-- One free bit more in All. -/
theorem bit_all {m p q j : Nat} (hf : (nl m (p ||| q)).testBit j = true) (hp : nl p m = 0) (hq : nl q m = 0) (h : p &&& q = 0) :
    p + 2 ^ j = p ||| 2 ^ j ∧ nl (p ||| 2 ^ j) m = 0 ∧ (p ||| 2 ^ j) &&& q = 0 ∧ 2 * 2 ^ popc (nl m ((p ||| 2 ^ j) ||| q)) = 2 ^ popc (nl m (p ||| q)) := by
  rw [tb_nl, Nat.testBit_or, Bool.and_eq_true, Bool.not_eq_true', Bool.or_eq_false_iff] at hf
  obtain ⟨hm, hpj, hqj⟩ := hf
  have hpow : ∀ i, (2 ^ j).testBit i = true → i = j := fun i hi => by rw [pow_tb] at hi; simpa using (of_decide_eq_true hi).symm
  refine ⟨add_is_or ?_, part_or hp (nl_zero.2 fun i hi => by rw [hpow i hi]; exact hm), ?_, ?_⟩
  · rw [and_zero]; intro i hi
    cases e : (2 ^ j).testBit i
    · rfl
    · rw [hpow i e, hpj] at hi; cases hi
  · rw [and_zero] at h ⊢
    intro i hi
    rw [Nat.testBit_or, Bool.or_eq_true] at hi
    rcases hi with hi | hi
    · exact h i hi
    · rw [hpow i hi]; exact hqj
  · have e1 : nl (2 ^ j) (nl m (p ||| q)) = 0 := nl_zero.2 fun i hi => by rw [hpow i hi, tb_nl, Nat.testBit_or, hm, hpj, hqj]; rfl
    have e2 := popc_nl e1
    have e3 : popc (2 ^ j) = 1 := by
      have : ∀ k, popc (2 ^ k) = 1 := by
        intro k
        induction k with
        | zero => decide +kernel
        | succ k ih =>
          rw [popc_pos (Nat.two_pow_pos _), Nat.pow_succ]
          have h1 : 2 ^ k * 2 % 2 = 0 := by omega
          have h2 : 2 ^ k * 2 / 2 = 2 ^ k := by omega
          rw [h1, h2, ih]
      exact this j
    have e4 : nl (nl m (p ||| q)) (2 ^ j) = nl m ((p ||| 2 ^ j) ||| q) := by
      apply tb_ext; intro i
      simp only [tb_nl, Nat.testBit_or]
      cases m.testBit i <;> cases p.testBit i <;> cases q.testBit i <;> cases (2 ^ j).testBit i <;> rfl
    rw [e4, e3] at e2
    rw [← e2, Nat.pow_succ, Nat.mul_comm]
/-- A number that is not 0 has a least bit. -/
theorem least_bit {n : Nat} (h : n ≠ 0) (hn : n < 4096) : ∃ j, j < 12 ∧ n.testBit j = true ∧ ∀ i, i < j → n.testBit i = false := by
  have h1 : ∃ j, n.testBit j = true := by
    by_cases h2 : ∃ j, n.testBit j = true
    · exact h2
    · exfalso
      apply h
      apply tb_ext; intro i
      rw [Nat.zero_testBit]
      cases e : n.testBit i
      · rfl
      · exact absurd ⟨i, e⟩ h2
  have key : ∀ k, (∃ j, j < k ∧ n.testBit j = true) → ∃ j, j < k ∧ n.testBit j = true ∧ ∀ i, i < j → n.testBit i = false := by
    intro k
    induction k with
    | zero => rintro ⟨j, hj, _⟩; omega
    | succ k ih =>
      rintro ⟨j, hj, hb⟩
      by_cases h3 : ∃ i, i < k ∧ n.testBit i = true
      · obtain ⟨i, hi, h4, h5⟩ := ih h3
        exact ⟨i, by omega, h4, h5⟩
      · refine ⟨j, hj, hb, fun i hi => ?_⟩
        cases e : n.testBit i
        · rfl
        · exact absurd ⟨i, by omega, e⟩ h3
  obtain ⟨j, hj⟩ := h1
  have hj12 : j < 12 := by
    by_cases h2 : j < 12
    · exact h2
    · rw [tb_lt hn (by omega)] at hj; cases hj
  exact key 12 ⟨j, hj12, hj⟩
end Go.Proofs.YtiebdhbioccogaaGreatDoor
