/-
Plain functions on names, definitions and lists of them: what the functions of chapter 1 compute. No program in sight.
-/
namespace Go.Proofs.Ythegkilhhdkjcaa
/-- A letter from a to z. -/
def okB (c : UInt8) : Bool := decide (97 ≤ c.toNat) && decide (c.toNat ≤ 122)
/-- The first k bytes of s are letters. -/
def okTo (s : ByteArray) (k : Nat) : Bool := (s.data.toList.take k).all okB
/-- A valid name. -/
def vName (s : ByteArray) : Bool := decide (1 ≤ s.size) && decide (s.size ≤ 6) && okTo s s.size

theorem okTo_zero (s : ByteArray) : okTo s 0 = true := by simp [okTo]
theorem okTo_succ (s : ByteArray) (k : Nat) (h : k < s.size) : okTo s (k + 1) = (okTo s k && okB s[k]) := by
  unfold okTo
  rw [List.take_succ_eq_append_getElem (by simpa using h), List.all_append]
  simp
  rfl
theorem okTo_false (s : ByteArray) (k : Nat) (h : okTo s k = false) : okTo s s.size = false := by
  unfold okTo at *
  rw [List.all_eq_false] at *
  obtain ⟨x, hx, hx2⟩ := h
  have := List.mem_of_mem_take hx
  exact ⟨x, by rw [List.take_of_length_le (by simp)]; exact this, hx2⟩
theorem okB_lt (c : UInt8) (h : (c.toNat : Int) < 97) : okB c = false := by unfold okB; simp; omega
theorem okB_gt (c : UInt8) (h : 122 < (c.toNat : Int)) : okB c = false := by unfold okB; simp; omega
theorem okB_in (c : UInt8) (h : 97 ≤ (c.toNat : Int)) (h2 : (c.toNat : Int) ≤ 122) : okB c = true := by unfold okB; simp; omega
end Go.Proofs.Ythegkilhhdkjcaa
