import Derived.Test.YtboehlffbibgmaaDoorRdP
namespace Go.Proofs.YtboehlffbibgmaaDoor
set_option linter.unusedVariables false

/-! ### cutting a text, step by step: no program in sight -/
theorem extract_mk (s : ByteArray) (j k : Nat) : s.extract j k = ⟨((s.data.toList.drop j).take (k - j)).toArray⟩ := by
  apply ByteArray.ext
  rw [ByteArray.data_extract]
  apply Array.ext'
  simp [List.extract_eq_take_drop]
def splSt (c : UInt8) (s : ByteArray) (done : List ByteArray) (j k : Nat) : Prop := splitT c s = done ++ (pcs c ((s.data.toList.drop j).take (k - j)) (s.data.toList.drop k)).map fun l => (⟨l.toArray⟩ : ByteArray)
theorem spl_zero (c : UInt8) (s : ByteArray) : splSt c s [] 0 0 := by
  unfold splSt splitT
  simp
theorem spl_drop {s : ByteArray} {k : Nat} (hk : k < s.size) : s.data.toList.drop k = s[k] :: s.data.toList.drop (k + 1) := by
  have h : k < s.data.toList.length := by rw [Array.length_toList]; exact hk
  rw [List.drop_eq_getElem_cons h]
  rfl
theorem spl_hit {c : UInt8} {s : ByteArray} {done : List ByteArray} {j k : Nat} (hk : k < s.size) (h : s[k] = c) (hst : splSt c s done j k) : splSt c s (done ++ [s.extract j k]) (k + 1) (k + 1) := by
  unfold splSt at hst ⊢
  rw [hst, spl_drop hk, pcs, if_pos h, List.map_cons, extract_mk, Nat.sub_self, List.take_zero]
  simp
theorem spl_miss {c : UInt8} {s : ByteArray} {done : List ByteArray} {j k : Nat} (hj : j ≤ k) (hk : k < s.size) (h : ¬ s[k] = c) (hst : splSt c s done j k) : splSt c s done j (k + 1) := by
  unfold splSt at hst ⊢
  have e : (s.data.toList.drop j).take (k - j) ++ [s[k]] = (s.data.toList.drop j).take (k + 1 - j) := by
    have hl : k - j < (s.data.toList.drop j).length := by rw [List.length_drop, Array.length_toList]; have : s.data.size = s.size := rfl; omega
    rw [show k + 1 - j = (k - j) + 1 by omega, List.take_succ_eq_append_getElem hl]
    congr 2
    rw [List.getElem_drop]
    have : j + (k - j) = k := by omega
    simp only [this]
    rfl
  rw [hst, spl_drop hk, pcs, if_neg h, e]
theorem spl_end {c : UInt8} {s : ByteArray} {done : List ByteArray} {j : Nat} (hst : splSt c s done j s.size) : splitT c s = done ++ [s.extract j s.size] := by
  unfold splSt at hst
  have h : s.data.toList.drop s.size = [] := List.drop_eq_nil_of_le (by rw [Array.length_toList]; exact Nat.le_refl _)
  rw [hst, h, pcs, extract_mk]
  rfl
/-! ### a number that is read, digit by digit -/
def rdSt (s : ByteArray) (k n : Nat) : Prop := rdLoop s.data.toList 0 = rdLoop (s.data.toList.drop k) n
theorem rd_step {s : ByteArray} {k n : Nat} (hk : k < s.size) (h1 : 48 ≤ s[k].toNat) (h2 : s[k].toNat ≤ 57) (h3 : n ≤ 4095) (h : rdSt s k n) : rdSt s (k + 1) (10 * n + (s[k].toNat - 48)) := by
  unfold rdSt at h ⊢
  rw [h, spl_drop hk, rdLoop, if_pos ⟨h1, h2, h3⟩]
theorem rd_no {s : ByteArray} {k n : Nat} (hk : k < s.size) (h1 : s[k].toNat < 48 ∨ 57 < s[k].toNat ∨ 4095 < n) (h : rdSt s k n) : mRdN s = -1 := by
  unfold rdSt at h
  rw [spl_drop hk, rdLoop, if_neg (by omega)] at h
  unfold mRdN
  rw [h]
theorem rd_end {s : ByteArray} {n : Nat} (h : rdSt s s.size n) : mRdN s = if s.size ≠ 0 ∧ n ≤ 4096 ∧ decB n = s then (n : Int) else -1 := by
  unfold rdSt at h
  have h2 : s.data.toList.drop s.size = [] := List.drop_eq_nil_of_le (by rw [Array.length_toList]; exact Nat.le_refl _)
  rw [h2, rdLoop] at h
  unfold mRdN
  rw [h]
end Go.Proofs.YtboehlffbibgmaaDoor
