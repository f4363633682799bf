import Derived.Test.YtcbhfaijlmckbaaConvP
import Derived.Test.YtcbhfaijlmckbaaLAlgN
import Derived.Test.YtcbhfaijlmckbaaLAlgR
namespace Go.Proofs.Ytcbhfaijlmckbaa
open Go.RowKit Go.Maps
set_option linter.unusedVariables false
set_option maxRecDepth 100000

/-! ### plain facts on the laws of conversions -/
theorem sgTo_mono {ds : List D} {j k : Nat} (hjk : j ≤ k) {d : D} (h : d ∈ sgTo ds j) : d ∈ sgTo ds k := by
  induction k with
  | zero => obtain rfl : j = 0 := by omega
            exact h
  | succ k ih =>
    by_cases e : j = k + 1
    · subst e; exact h
    · unfold sgTo; exact List.mem_append.2 (.inl (ih (by omega)))
theorem sg_has {ds : List D} {i : Nat} (hi : i < 12) {d : D} (hd : d ∈ ds) (hv : d.val = ((2 ^ i : Nat) : Int)) : ∃ e ∈ mSg ds, e.val = ((2 ^ i : Nat) : Int) := by
  cases hf : ds.find? (isVal ((2 ^ i : Nat) : Int)) with
  | none =>
    rw [List.find?_eq_none] at hf
    exact absurd (by unfold isVal; rw [hv]; simp) (hf d hd)
  | some e =>
    have h2 := List.find?_some hf
    refine ⟨e, sgTo_mono (show i + 1 ≤ 12 by omega) ?_, by unfold isVal at h2; simpa using h2⟩
    unfold sgTo sgAt
    rw [hf]
    exact List.mem_append.2 (.inr (by simp))
theorem bits_pow {ds : List D} {d : D} (h : d ∈ mBits ds) : ∃ r : Nat, r < 12 ∧ d.val = ((2 ^ r : Nat) : Int) := by
  unfold mBits byR at h
  cases hv : vEnum ds
  · rw [hv] at h; cases h
  · rw [hv, if_pos rfl] at h
    unfold rkL at h
    obtain ⟨x, hx, rfl⟩ := List.mem_map.1 h
    obtain ⟨k, hk, rfl⟩ := List.mem_iff_getElem.1 hx
    obtain ⟨r, hr, _, hrk⟩ := rk_in hv hk
    exact ⟨r, hr, by simp only; rw [hrk, bitR_n]⟩
theorem bits_mask (ds : List D) : mMask (mSg (mBits ds)) = mMask (mBits ds) := by
  apply Nat.eq_of_testBit_eq; intro i
  rw [mMask_tb, mMask_tb, Bool.eq_iff_iff, List.any_eq_true, List.any_eq_true]
  constructor
  · rintro ⟨e, he, h⟩; exact ⟨e, (sgTo_in he).1, h⟩
  · rintro ⟨d, hd, h⟩
    obtain ⟨r, hr, hv⟩ := bits_pow hd
    obtain ⟨e, he, hev⟩ := sg_has hr hd hv
    exact ⟨e, he, by rw [hev]; rw [hv] at h; exact h⟩
theorem memin_set {ds : List D} {x : Int} (h : mMemIn ds x ≠ []) : mSetOk ds (mMemIn ds x) = true ∧ mSet ds (mMemIn ds x) = x := by
  have hv : vEnum ds = true := by
    cases hv : vEnum ds
    · exact absurd (by unfold mMemIn; rw [hv]; rfl) h
    · rfl
  rw [mMemIn_is] at h ⊢
  unfold mNamesIn at h ⊢
  cases hx : mIsV (mBits ds) 0 x
  · rw [hx] at h; exact absurd rfl h
  · rw [if_pos rfl]
    obtain ⟨p, rfl, hp⟩ := mIsV_nat hx
    rw [Int.toNat_natCast]
    obtain ⟨h1, h2⟩ := from_names (mBits_flag ds) (mIn (mBits ds) p) (fun d hd => (sgTo_in (mWithin_mem hd)).1)
    have h3 := in_rest (mBits ds) p
    have h4 : nl p (mMask (mSg (mBits ds))) = 0 := by rw [bits_mask]; exact mIsV_part hx (by decide)
    have h5 : mMask (mIn (mBits ds) p) = p := by omega
    unfold mSetOk mSet
    rw [hv, if_pos rfl]
    exact ⟨by rw [h2]; rfl, by rw [h1, h5]⟩
theorem memin_len (ds : List D) (x : Int) : (mMemIn ds x).length ≤ 12 := by rw [mMemIn_is]; exact mNamesIn_len _ _ _
end Go.Proofs.Ytcbhfaijlmckbaa
