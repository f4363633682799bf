import Derived.Test.YtpfdghbjagdhfaaDoorBaseN
import Derived.Test.YtpfdghbjagdhfaaDoorLArm
namespace Go.Proofs.YtpfdghbjagdhfaaDoor
open Go.RowKit
set_option linter.unusedVariables false
set_option maxRecDepth 100000

theorem nilNo {b : ByteArray} (h : ¬ b = ⟨#[]⟩) : (b.toList == []) = false := by
  rw [beq_eq_false_iff_ne]
  intro e
  exact h (nm_inj (by rw [e]; first | rfl | decide | simp [go_sem]))
/-! ### what is so of texts of arms -/
theorem arm_law {ds : List D} {b x y : Int} {s : ByteArray} (h : mArmT ds b ⟨x, y⟩ = s) (hne : s ≠ ⟨#[]⟩) : ∃ p q : Nat, x = p ∧ y = q ∧ ArR (mPar ds b s) p q true ∧ s.size ≤ 4000 := by
  cases ho : mArmOk ds b ⟨x, y⟩
  · exfalso
    unfold mArmT at h
    rw [ho] at h
    exact hne h.symm
  · obtain ⟨hv, p, q, e1, e2, hp, hq, _⟩ := mArmOk_nat ho
    simp only at e1 e2
    subst e1 e2
    refine ⟨p, q, rfl, rfl, ?_, ?_⟩
    · have h2 := mPar_text ho
      rw [h] at h2
      rw [h2]
      exact ⟨fun a c e => by cases e; exact ⟨rfl, rfl, rfl⟩, fun e => by cases e⟩
    · rw [← h]
      unfold mArmT
      rw [if_pos ho]
      unfold textA
      split
      · decide
      · have h1 := joinW_size (sep := spB) (fun s hs => (textA_words hv p q s hs).1) (wordsA p q (mSg ds)).length (Nat.le_refl _)
        rw [List.take_of_length_le (Nat.le_refl _)] at h1
        have h2 := wordsA_len p q (mSg ds)
        have h3 := mSg_len ds
        have h5 : spB.size = 1 := rfl
        rw [h5] at h1
        have h6 : (8 + 1) * (wordsA p q (mSg ds)).length ≤ 9 * 12 := Nat.mul_le_mul_left 9 (by omega)
        show (joinW (wordsA p q (mSg ds)) spB).size ≤ 4000
        simp only [Int.toNat_natCast] at *
        omega
theorem par_law {ds : List D} {b : Int} {t : ByteArray} {x y : Nat} (h : ArR (mPar ds b t) x y true) : mArmT ds b ⟨x, y⟩ = t ∧ mArm ds b ⟨x, y⟩ = true := by
  cases hm : mPar ds b t with
  | none => exact absurd (h.no hm).2.2 (by decide)
  | some r =>
    obtain ⟨p, q⟩ := r
    obtain ⟨rfl, rfl, _⟩ := h.yes p q hm
    unfold mPar at hm
    split at hm
    · rename_i hv
      split at hm
      · rename_i hs
        cases hm
        subst hs
        exact ⟨mArmT_zero hv, arm_of (p := 0) (q := 0) hv (nl_nil _) (nl_nil _) (Nat.zero_and _)⟩
      · split at hm
        · rename_i r hr
          split at hm
          · rename_i h2
            cases hm
            rw [Bool.and_eq_true, decide_eq_true_eq] at h2
            have h3 := h2.1
            rw [mArmOk_two, Bool.and_eq_true] at h3
            exact ⟨h2.2, h3.1⟩
          · cases hm
        · cases hm
    · cases hm

theorem arR_small {ds : List D} {b : Int} {t : ByteArray} {x y : Nat} {v : Bool} (h : ArR (mPar ds b t) x y v) : x < 4096 ∧ y < 4096 := by
  cases hm : mPar ds b t with
  | none => obtain ⟨rfl, rfl, _⟩ := h.no hm; exact ⟨by decide, by decide⟩
  | some r =>
    obtain ⟨p, q⟩ := r
    obtain ⟨rfl, rfl, _⟩ := h.yes p q hm
    unfold mPar at hm
    split at hm
    · split at hm
      · cases hm; exact ⟨by decide, by decide⟩
      · split at hm
        · rename_i r hr
          split at hm
          · rename_i h2
            cases hm
            rw [Bool.and_eq_true] at h2
            obtain ⟨_, p, q, e1, e2, hp, hq, _⟩ := mArmOk_nat h2.1
            simp only at e1 e2
            omega
          · cases hm
        · cases hm
    · cases hm
set_option maxHeartbeats 1000000 in
theorem equalArm_any (x y : Int) (w : World) :
    Calls Tryd.prog 40 #[.agg #[.int .i64 x, .int .i64 y], .agg #[.int .i64 x, .int .i64 y]] w fun e w' => e = .returned (.bool true) ∧ Below w.heap.size w w' := by
  have ex : (x == x) = true := beq_self_eq_true x
  have ey : (y == y) = true := beq_self_eq_true y
  go_enter Tryd.func40, Tryd.ntmps40
  go_wp2
  go_ret
  exact ⟨rfl, ((Below.refl _ _).alloc (Nat.le_refl _) _).alloc (by simp) _⟩
end Go.Proofs.YtpfdghbjagdhfaaDoor
