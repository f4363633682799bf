import Derived.Test.YtpfdghbjagdhfaaDoorAuP
import Derived.Test.YtpfdghbjagdhfaaDoorLArm
namespace Go.Proofs.YtpfdghbjagdhfaaDoor
set_option linter.unusedVariables false

theorem wordsA_zero (l : List D) : wordsA 0 0 l = [] := by
  induction l with
  | nil => rfl
  | cons d r ih =>
    unfold wordsA at ih ⊢
    rw [List.flatMap_cons, ih]
    have : wordA 0 0 d = [] := by
      unfold wordA
      rw [Nat.and_zero, if_neg (by simp), if_neg (by simp)]
    rw [this, List.nil_append]
theorem mArmT_zero {ds : List D} {b : Int} (hv : vFlag ds b = true) : mArmT ds b ⟨0, 0⟩ = starB := by
  have h1 : fitsA (mMask (mSg ds)) ⟨0, 0⟩ = true := fitsA_of (p := 0) (q := 0) (nl_zero.2 fun i hi => by simp at hi) (nl_zero.2 fun i hi => by simp at hi) rfl
  have h2 : mArmOk ds b ⟨0, 0⟩ = true := by unfold mArmOk; rw [hv, h1]; rfl
  unfold mArmT
  rw [if_pos h2]
  show textA ds 0 0 = starB
  unfold textA
  rw [if_pos (wordsA_zero _)]
theorem mPar_arV {ds : List D} {b : Int} {s : ByteArray} (hv : vFlag ds b = true) : mPar ds b s = match arV (mSg ds) s with
    | some r => if mArmT ds b ⟨r.1, r.2⟩ = s then some r else none
    | none => none := by
  by_cases hs : s = starB
  · subst hs
    unfold mPar arV
    rw [if_pos hv, if_pos rfl, if_pos rfl]
    have h := mArmT_zero hv
    show some (0, 0) = if mArmT ds b ⟨((0 : Nat) : Int), ((0 : Nat) : Int)⟩ = starB then some (0, 0) else none
    exact (if_pos h).symm
  · rw [mPar_sg hv hs]
    unfold arV
    rw [if_neg hs]
    cases arTo (mSg ds) (splitT 32 s) 0 0 with
    | none => rfl
    | some r => rfl
theorem arTo_lt {l : List D} (hin : ∀ d ∈ l, inR d) : ∀ (ws : List ByteArray) (p q : Nat) (r : Nat × Nat), p < 4096 → q < 4096 → arTo l ws p q = some r → r.1 < 4096 ∧ r.2 < 4096
  | [], p, q, r, hp, hq, h => by rw [arTo] at h; cases h; exact ⟨hp, hq⟩
  | s :: ws, p, q, r, hp, hq, h => by
    rw [arTo] at h
    split at h
    · rename_i d hd
      have hi := hin d (List.mem_of_find?_eq_some hd)
      have h4 : d.val.toNat < 4096 := by unfold inR at hi; omega
      split at h
      · exact arTo_lt hin ws _ _ r hp (or_lt hq h4) h
      · exact arTo_lt hin ws _ _ r (or_lt hp h4) hq h
    · cases h
theorem arV_lt {l : List D} (hin : ∀ d ∈ l, inR d) {s : ByteArray} {r : Nat × Nat} (h : arV l s = some r) : r.1 < 4096 ∧ r.2 < 4096 := by
  unfold arV at h
  split at h
  · cases h; exact ⟨by show 0 < 4096; omega, by show 0 < 4096; omega⟩
  · exact arTo_lt hin _ _ _ r (by omega) (by omega) h
theorem arR_lt {l : List D} (hin : ∀ d ∈ l, inR d) {s : ByteArray} {x y : Nat} {v : Bool} (h : ArR (arV l s) x y v) : x < 4096 ∧ y < 4096 := by
  cases e : arV l s with
  | none => obtain ⟨rfl, rfl, _⟩ := h.no e; omega
  | some r =>
    obtain ⟨rfl, rfl, _⟩ := h.yes r.1 r.2 e
    exact arV_lt hin e
/-- What the program's ParseArm makes of what it has read. -/
theorem par_no {ds : List D} {b : Int} {s : ByteArray} (hv : vFlag ds b = true) {x y : Nat} (h : ArR (arV (mSg ds) s) x y false) : mPar ds b s = none := by
  rw [mPar_arV hv]
  cases e : arV (mSg ds) s with
  | none => rfl
  | some r => have := (h.yes r.1 r.2 e).2.2; cases this
theorem par_yes {ds : List D} {b : Int} {s : ByteArray} (hv : vFlag ds b = true) {x y : Nat} (h : ArR (arV (mSg ds) s) x y true) : mPar ds b s = if mArmT ds b ⟨x, y⟩ = s then some (x, y) else none := by
  rw [mPar_arV hv]
  cases e : arV (mSg ds) s with
  | none => have := (h.no e).2.2; cases this
  | some r =>
    obtain ⟨rfl, rfl, _⟩ := h.yes r.1 r.2 e
    rfl
end Go.Proofs.YtpfdghbjagdhfaaDoor
