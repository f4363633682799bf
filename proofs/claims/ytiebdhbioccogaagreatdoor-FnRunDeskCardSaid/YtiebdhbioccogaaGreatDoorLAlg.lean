import Derived.Test.YtiebdhbioccogaaGreatDoorBaseE
import Derived.Test.YtiebdhbioccogaaGreatDoorBaseD
namespace Go.Proofs.YtiebdhbioccogaaGreatDoor
open Go.RowKit Go.Maps
set_option linter.unusedVariables false
set_option maxRecDepth 100000

/-! ### plain facts for the laws of chapter 4 -/
section
variable {ds : List D} {b : Int} {p q : Nat}
theorem part_or {a c m : Nat} (h1 : nl a m = 0) (h2 : nl c m = 0) : nl (a ||| c) m = 0 := by
  rw [nl_zero] at *
  intro i hi
  rw [Nat.testBit_or, Bool.or_eq_true] at hi
  exact hi.elim (h1 i) (h2 i)
theorem part_and {a c m : Nat} (h1 : nl a m = 0) : nl (a &&& c) m = 0 := by
  rw [nl_zero] at *
  intro i hi
  rw [Nat.testBit_and, Bool.and_eq_true] at hi
  exact h1 i hi.1
theorem part_xor {a c m : Nat} (h1 : nl a m = 0) (h2 : nl c m = 0) : nl (a ^^^ c) m = 0 := by
  rw [nl_zero] at *
  intro i hi
  rw [Nat.testBit_xor] at hi
  cases ha : a.testBit i
  · rw [ha] at hi; exact h2 i (by simpa using hi)
  · exact h1 i ha
theorem part_nl {a c m : Nat} (h1 : nl a m = 0) : nl (nl a c) m = 0 := by
  rw [nl_zero] at *
  intro i hi
  rw [tb_nl, Bool.and_eq_true] at hi
  exact h1 i hi.1
theorem part_self (a : Nat) : nl a a = 0 := nl_zero.2 fun _ h => h
theorem v_or (hp : mIsV ds b p = true) (hq : mIsV ds b q = true) : mIsV ds b ((p ||| q : Nat) : Int) = true := by
  have h1 := mIsV_rng hp
  have h2 := mIsV_rng hq
  refine mIsV_of (mIsV_flag hp) (or_lt (by omega) (by omega)) ?_
  by_cases h3 : b = 3
  · exact .inl h3
  · exact .inr (part_or (mIsV_part hp h3) (mIsV_part hq h3))
theorem v_and (hp : mIsV ds b p = true) (hq : mIsV ds b q = true) : mIsV ds b ((p &&& q : Nat) : Int) = true := by
  have h1 := mIsV_rng hp
  refine mIsV_of (mIsV_flag hp) (and_lt (by omega)) ?_
  by_cases h3 : b = 3
  · exact .inl h3
  · exact .inr (part_and (mIsV_part hp h3))
theorem v_xor (hp : mIsV ds b p = true) (hq : mIsV ds b q = true) : mIsV ds b ((p ^^^ q : Nat) : Int) = true := by
  have h1 := mIsV_rng hp
  have h2 := mIsV_rng hq
  refine mIsV_of (mIsV_flag hp) (xor_lt (by omega) (by omega)) ?_
  by_cases h3 : b = 3
  · exact .inl h3
  · exact .inr (part_xor (mIsV_part hp h3) (mIsV_part hq h3))
theorem v_nl (hp : mIsV ds b p = true) : mIsV ds b ((nl p q : Nat) : Int) = true := by
  have h1 := mIsV_rng hp
  refine mIsV_of (mIsV_flag hp) (nl_lt (by omega)) ?_
  by_cases h3 : b = 3
  · exact .inl h3
  · exact .inr (part_nl (mIsV_part hp h3))
theorem v_mask (hv : vFlag ds b = true) : mIsV ds b ((mMask ds : Nat) : Int) = true :=
  mIsV_of hv (mMask_lt12 (vFlag_in hv)) (.inr (part_self _))
theorem v_zero (hv : vFlag ds b = true) : mIsV ds b ((0 : Nat) : Int) = true :=
  mIsV_of hv (by decide) (.inr (by rw [nl_zero]; intro i hi; rw [Nat.zero_testBit] at hi; cases hi))
/-- An operation on two values. -/
theorem op_is {op : Nat → Nat → Nat} (hp : mIsV ds b p = true) (hq : mIsV ds b q = true) {r : Nat} (hr : op p q = r) : mOp op ds b p q = (r : Int) := by
  unfold mOp mTwo; rw [hp, hq, Bool.and_self, if_pos rfl, Int.toNat_natCast, Int.toNat_natCast, hr]
theorem has_is (hp : mIsV ds b p = true) (hq : mIsV ds b q = true) {v : Bool} (hr : decide (nl q p = 0) = v) : mHas ds b p q = v := by
  unfold mHas mTwo; rw [hp, hq, Bool.and_self, Bool.true_and, Int.toNat_natCast, Int.toNat_natCast, hr]
theorem inv_is (hp : mIsV ds b p = true) {r : Nat} (hr : nl (mWhole ds b) p = r) : mInv ds b p = (r : Int) := by
  unfold mInv; rw [hp, if_pos rfl, Int.toNat_natCast, hr]
theorem v_inv (hv : vFlag ds b = true) : mIsV ds b ((nl (mWhole ds b) p : Nat) : Int) = true := by
  refine mIsV_of hv (nl_lt (mWhole_lt (vFlag_in hv))) ?_
  unfold mWhole
  split
  · rename_i h; exact .inl h
  · exact .inr (part_nl (part_self _))
theorem op_two {op : Nat → Nat → Nat} {x y : Int} (h : ¬ mOp op ds b x y < 0) : mTwo ds b x y = true := by
  cases hv : mTwo ds b x y
  · exact absurd (by unfold mOp; rw [hv, if_neg (by decide)]; decide) h
  · rfl
end
/-- Bit by bit. -/
theorem nl_self (a : Nat) : nl a a = 0 := part_self a
theorem or_eq_add (p q : Nat) : p ||| q = p + nl q p := by
  have h1 := or_add_and p q
  have h2 := nl_add_and q p
  rw [Nat.and_comm] at h2
  omega
theorem tb_ext {a c : Nat} (h : ∀ i, a.testBit i = c.testBit i) : a = c := Nat.eq_of_testBit_eq h
theorem bx1 (p q : Nat) : (p ^^^ q) ^^^ q = p := by apply tb_ext; intro i; simp only [Nat.testBit_xor]; cases p.testBit i <;> cases q.testBit i <;> rfl
theorem bx2 (p q : Nat) : nl (p ||| q) (p &&& q) = p ^^^ q := by apply tb_ext; intro i; simp only [tb_nl, Nat.testBit_or, Nat.testBit_and, Nat.testBit_xor]; cases p.testBit i <;> cases q.testBit i <;> rfl
theorem bl1 (p q : Nat) : nl p q &&& q = 0 := by apply tb_ext; intro i; simp only [tb_nl, Nat.testBit_and, Nat.zero_testBit]; cases p.testBit i <;> cases q.testBit i <;> rfl
theorem bl2 (p q : Nat) : nl p q ||| (p &&& q) = p := by apply tb_ext; intro i; simp only [tb_nl, Nat.testBit_and, Nat.testBit_or]; cases p.testBit i <;> cases q.testBit i <;> rfl
theorem bl3 (p q : Nat) : nl (nl p q) p = 0 := by apply tb_ext; intro i; simp only [tb_nl, Nat.zero_testBit]; cases p.testBit i <;> cases q.testBit i <;> rfl
theorem bo1 (p q : Nat) : nl p (p ||| q) = 0 := by apply tb_ext; intro i; simp only [tb_nl, Nat.testBit_or, Nat.zero_testBit]; cases p.testBit i <;> cases q.testBit i <;> rfl
theorem bo2 (p q : Nat) : nl q (p ||| q) = 0 := by apply tb_ext; intro i; simp only [tb_nl, Nat.testBit_or, Nat.zero_testBit]; cases p.testBit i <;> cases q.testBit i <;> rfl
theorem bo3 (p q : Nat) : (p ||| q) ||| p = p ||| q := by apply tb_ext; intro i; simp only [Nat.testBit_or]; cases p.testBit i <;> cases q.testBit i <;> rfl
theorem ba1 (p q : Nat) : nl (p &&& q) p = 0 := by apply tb_ext; intro i; simp only [tb_nl, Nat.testBit_and, Nat.zero_testBit]; cases p.testBit i <;> cases q.testBit i <;> rfl
theorem ba2 (p q : Nat) : nl (p &&& q) q = 0 := by apply tb_ext; intro i; simp only [tb_nl, Nat.testBit_and, Nat.zero_testBit]; cases p.testBit i <;> cases q.testBit i <;> rfl
theorem ba3 (p q : Nat) : (p &&& q) &&& p = p &&& q := by apply tb_ext; intro i; simp only [Nat.testBit_and]; cases p.testBit i <;> cases q.testBit i <;> rfl
theorem bd1 (c p q : Nat) : c &&& (p ||| q) = (c &&& p) ||| (c &&& q) := by apply tb_ext; intro i; simp only [Nat.testBit_and, Nat.testBit_or]; cases c.testBit i <;> cases p.testBit i <;> cases q.testBit i <;> rfl
theorem bd2 (c p q : Nat) : c ||| (p &&& q) = (c ||| p) &&& (c ||| q) := by apply tb_ext; intro i; simp only [Nat.testBit_and, Nat.testBit_or]; cases c.testBit i <;> cases p.testBit i <;> cases q.testBit i <;> rfl
theorem has_and (p q : Nat) : (nl q p = 0) ↔ (p &&& q = q) := by
  have := nl_add_and q p
  rw [Nat.and_comm] at this
  omega
theorem has_or (p q : Nat) : (nl q p = 0) ↔ (p ||| q = p) := by
  have := or_eq_add p q
  omega
/-- What is left of a whole. -/
theorem bi1 (w p : Nat) : p &&& nl w p = 0 := by apply tb_ext; intro i; simp only [tb_nl, Nat.testBit_and, Nat.zero_testBit]; cases p.testBit i <;> cases w.testBit i <;> rfl
theorem bi2 {w p : Nat} (h : nl p w = 0) : nl w (nl w p) = p := by
  rw [nl_zero] at h
  apply tb_ext; intro i
  have := h i
  simp only [tb_nl]
  cases hp : p.testBit i
  · cases w.testBit i <;> rfl
  · rw [this hp]; rfl
theorem bi3 (w p q : Nat) : nl w (p ||| q) = nl w p &&& nl w q := by apply tb_ext; intro i; simp only [tb_nl, Nat.testBit_and, Nat.testBit_or]; cases w.testBit i <;> cases p.testBit i <;> cases q.testBit i <;> rfl
theorem bi4 (w p q : Nat) : nl w (p &&& q) = nl w p ||| nl w q := by apply tb_ext; intro i; simp only [tb_nl, Nat.testBit_and, Nat.testBit_or]; cases w.testBit i <;> cases p.testBit i <;> cases q.testBit i <;> rfl
theorem bi5 {m w p : Nat} (h : nl m w = 0) : nl m (p ||| nl w p) = 0 := by
  rw [nl_zero] at *
  intro i hi
  rw [Nat.testBit_or, tb_nl, h i hi]
  cases p.testBit i <;> rfl
theorem bi6 (w p : Nat) : nl (nl w p) w = 0 := by apply tb_ext; intro i; simp only [tb_nl, Nat.zero_testBit]; cases w.testBit i <;> cases p.testBit i <;> rfl
theorem mask_high {ds : List D} (hin : ∀ d ∈ ds, inR d) : nl (mMask ds) (mHigh ds) = 0 := by
  rw [nl_zero]; intro i hi
  have hlt := blen_lt (mMask ds)
  have h1 : 2 ^ i ≤ mMask ds := Nat.ge_two_pow_of_testBit hi
  have h5 : i < blen (mMask ds) := by
    by_cases h : i < blen (mMask ds)
    · exact h
    · have := Nat.pow_le_pow_right (n := 2) (by decide) (show blen (mMask ds) ≤ i by omega); omega
  unfold mHigh mNb
  rw [Nat.testBit_two_pow_sub_one]
  simp [h5]
theorem popc_or_and (p q : Nat) : popc (p ||| q) + popc (p &&& q) = popc p + popc q := by
  have key : ∀ n p q, p < 2 ^ n → q < 2 ^ n → popc (p ||| q) + popc (p &&& q) = popc p + popc q := by
    intro n
    induction n with
    | zero =>
      intro p q hp hq
      obtain rfl : p = 0 := by omega
      obtain rfl : q = 0 := by omega
      rfl
    | succ n ih =>
      intro p q hp hq
      have hpow : 2 ^ (n + 1) = 2 * 2 ^ n := by rw [Nat.pow_succ]; omega
      have h := ih (p / 2) (q / 2) (by omega) (by omega)
      have step : ∀ m, popc m = m % 2 + popc (m / 2) := fun m => by
        by_cases h0 : m = 0
        · subst h0; rw [popc_zero]
        · exact popc_pos (by omega)
      have e1 : (p ||| q) / 2 = p / 2 ||| q / 2 := Nat.or_div_two
      have e2 : (p &&& q) / 2 = p / 2 &&& q / 2 := Nat.and_div_two
      have e3 : (p ||| q) % 2 + (p &&& q) % 2 = p % 2 + q % 2 := by
        have a1 := bit_dm (p ||| q) 0
        have a2 := bit_dm (p &&& q) 0
        have a3 := bit_dm p 0
        have a4 := bit_dm q 0
        rw [Nat.pow_zero, Nat.div_one] at a1 a2 a3 a4
        rw [a1, a2, a3, a4, Nat.testBit_or, Nat.testBit_and]
        cases p.testBit 0 <;> cases q.testBit 0 <;> rfl
      rw [step (p ||| q), step (p &&& q), step p, step q, e1, e2]
      omega
  exact key (p + q) p q (Nat.lt_of_le_of_lt (Nat.le_add_right p q) Nat.lt_two_pow_self) (Nat.lt_of_le_of_lt (Nat.le_add_left q p) Nat.lt_two_pow_self)
theorem popc_zero_iff (n : Nat) : popc n = 0 ↔ n = 0 := by
  constructor
  · intro h
    induction n using Nat.strongRecOn with
    | ind n ih =>
      by_cases h0 : n = 0
      · exact h0
      · rw [popc_pos (by omega)] at h
        have := ih (n / 2) (by omega) (by omega)
        omega
  · rintro rfl; exact popc_zero
end Go.Proofs.YtiebdhbioccogaaGreatDoor
