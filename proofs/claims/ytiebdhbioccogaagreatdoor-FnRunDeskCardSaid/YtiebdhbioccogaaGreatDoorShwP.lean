import Derived.Test.YtiebdhbioccogaaGreatDoorBaseA
import Derived.Lib.ItoaNum
namespace Go.Proofs.YtiebdhbioccogaaGreatDoor
set_option linter.unusedVariables false

/-! ### numbers in decimal: no program in sight -/
def decB (n : Nat) : ByteArray := ⟨(Lib.decDigits n).toArray⟩
def itoaB (n : Int) : ByteArray := ⟨(Lib.itoa n).toArray⟩
theorem dec_small {n : Nat} (h : n < 10) : Lib.decDigits n = [UInt8.ofNat (48 + n)] := by rw [Lib.decDigits, dif_pos h]
theorem dec_big {n : Nat} (h : ¬ n < 10) : Lib.decDigits n = Lib.decDigits (n / 10) ++ [UInt8.ofNat (48 + n % 10)] := by rw [Lib.decDigits, dif_neg h]
theorem decB_small {n : Nat} (h : n < 10) : decB n = ⟨#[UInt8.ofNat (48 + n)]⟩ := by unfold decB; rw [dec_small h]
theorem decB_big {n : Nat} (h : ¬ n < 10) : decB n = decB (n / 10) ++ decB (n % 10) := by
  apply ByteArray.ext
  rw [ByteArray.data_append]
  unfold decB
  rw [dec_big h, dec_small (show n % 10 < 10 by omega)]
  simp
theorem itoaB_pos (n : Nat) : itoaB (n : Int) = decB n := by
  unfold itoaB decB Lib.itoa
  rw [if_neg (by omega), Int.toNat_natCast]
theorem itoaB_neg (n : Nat) (h : 0 < n) : itoaB (-(n : Int)) = ⟨#[45]⟩ ++ decB n := by
  apply ByteArray.ext
  rw [ByteArray.data_append]
  unfold itoaB decB Lib.itoa
  rw [if_pos (by omega), Int.natAbs_neg, Int.natAbs_natCast]
  simp
theorem decB_size (k : Nat) : ∀ n : Nat, n < 10 ^ k → (decB n).size ≤ k + 1 := by
  induction k with
  | zero => intro n h
            have : n = 0 := by simpa using h
            subst this
            rw [decB_small (by decide)]
            exact Nat.le_refl _
  | succ k ih =>
    intro n h
    by_cases h10 : n < 10
    · rw [decB_small h10]
      show 1 ≤ _
      omega
    · rw [decB_big h10, decB_small (show n % 10 < 10 by omega), ByteArray.size_append]
      have h2 := ih (n / 10) (by rw [Nat.pow_succ] at h; omega)
      show (decB (n / 10)).size + 1 ≤ _
      omega
/-- The text of a value of an enumeration. -/
def mShowE (ds : List D) (x : Int) : ByteArray := if vEnum ds && (decide (-1000 ≤ x) && decide (x ≤ 1000)) then (if 0 ≤ fidx (isVal x) ds then (ds[(fidx (isVal x) ds).toNat]?).elim ⟨#[]⟩ D.name else itoaB x) else ⟨#[]⟩
theorem showE_no {ds : List D} {x : Int} (h : vEnum ds = false ∨ x < -1000 ∨ 1000 < x) : mShowE ds x = ⟨#[]⟩ := by
  unfold mShowE
  rw [if_neg]
  intro hh
  rw [Bool.and_eq_true, Bool.and_eq_true, decide_eq_true_iff, decide_eq_true_iff] at hh
  rcases h with h | h | h
  · rw [h] at hh; cases hh.1
  · omega
  · omega
theorem showE_name {ds : List D} {x : Int} (hv : vEnum ds = true) (h1 : -1000 ≤ x) (h2 : x ≤ 1000) {k : Nat} (hk : k < ds.length) (h : fidx (isVal x) ds = k) : mShowE ds x = ds[k].name := by
  unfold mShowE
  rw [hv, decide_eq_true h1, decide_eq_true h2, if_pos (by decide), h, if_pos (by omega), Int.toNat_natCast, List.getElem?_eq_getElem hk]
  rfl
theorem showE_num {ds : List D} {x : Int} (hv : vEnum ds = true) (h1 : -1000 ≤ x) (h2 : x ≤ 1000) (h : fidx (isVal x) ds < 0) : mShowE ds x = itoaB x := by
  unfold mShowE
  rw [hv, decide_eq_true h1, decide_eq_true h2, if_pos (by decide), if_neg (by omega)]
end Go.Proofs.YtiebdhbioccogaaGreatDoor
