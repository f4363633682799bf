/-
Plain facts on ShowEnum, as its law asks for them. No program in sight.
-/
import Derived.Test.YtboehlffbibgmaaDoorShwP
import Derived.Test.YtboehlffbibgmaaDoorBaseP
import Derived.Test.YtboehlffbibgmaaDoorBaseA
namespace Go.Proofs.YtboehlffbibgmaaDoor
set_option linter.unusedVariables false
set_option maxRecDepth 100000

theorem dec_le : ∀ n : Nat, ∀ b ∈ Lib.decDigits n, b.toNat ≤ 57 := by
  intro n
  induction n using Nat.strongRecOn with
  | _ n ih =>
    intro b hb
    by_cases h : n < 10
    · rw [dec_small h] at hb
      rw [List.mem_singleton.1 hb, UInt8.toNat_ofNat']
      omega
    · rw [dec_big h] at hb
      rcases List.mem_append.1 hb with hb | hb
      · exact ih (n / 10) (by omega) b hb
      · rw [List.mem_singleton.1 hb, UInt8.toNat_ofNat']
        omega
theorem dec_one (n : Nat) : 1 ≤ (Lib.decDigits n).length := by
  by_cases h : n < 10
  · rw [dec_small h]; exact Nat.le_refl _
  · rw [dec_big h, List.length_append]; simp
theorem itoa_le (x : Int) : ∀ b ∈ Lib.itoa x, b.toNat ≤ 57 := by
  intro b hb
  unfold Lib.itoa at hb
  split at hb
  · rcases List.mem_cons.1 hb with h | h
    · rw [h]; decide
    · exact dec_le _ b h
  · exact dec_le _ b hb
theorem itoa_one (x : Int) : 1 ≤ (Lib.itoa x).length := by
  unfold Lib.itoa
  split
  · simp
  · exact dec_one _
theorem itoa_bad (x : Int) : vName (itoaB x) = false := by
  rw [Bool.eq_false_iff]
  intro h
  unfold vName at h
  rw [Bool.and_eq_true] at h
  have h := h.2
  unfold okTo at h
  rw [List.all_eq_true] at h
  have h1 := itoa_one x
  have hd : (itoaB x).data.toList = Lib.itoa x := by unfold itoaB; simp
  have hs : (itoaB x).size = (Lib.itoa x).length := by show (itoaB x).data.size = _; rw [← hd]; simp
  rw [hd, hs, List.take_of_length_le (Nat.le_refl _)] at h
  obtain ⟨b, l, e⟩ : ∃ b l, Lib.itoa x = b :: l := by
    cases hl : Lib.itoa x with
    | nil => rw [hl] at h1; simp at h1
    | cons b l => exact ⟨b, l, rfl⟩
  have h2 := h b (by rw [e]; simp)
  have h3 := itoa_le x b (by rw [e]; simp)
  unfold okB at h2
  simp only [Bool.and_eq_true, decide_eq_true_eq] at h2
  omega
theorem ne_empty {a : ByteArray} (h : a ≠ ⟨#[]⟩) : a.toList.isEmpty = false := by
  cases e : a.toList with
  | nil => exact absurd (nm_inj (e.trans (by first | decide | (unfold ByteArray.toList; rw [ByteArray.toList.loop]; rfl) | simp))) h
  | cons x l => rfl
theorem itoa_ne (x : Int) : itoaB x ≠ (⟨#[]⟩ : ByteArray) := by
  intro e
  have h := congrArg (fun b : ByteArray => b.data.toList.length) e
  have h1 := itoa_one x
  unfold itoaB at h
  simp at h
  rw [h] at h1
  simp at h1
theorem enum_name {ds : List D} (hv : vEnum ds = true) {k : Nat} (hk : k < ds.length) : vName ds[k].name = true := by
  have := vEnum_good hv k hk hk
  unfold goodAt at this
  simp only [Bool.and_eq_true] at this
  exact this.1.1
theorem itoa_none {ds : List D} (hv : vEnum ds = true) (x : Int) : fidx (isNm (itoaB x)) ds < 0 := by
  rcases fidx_cases (isNm (itoaB x)) ds with ⟨h, _⟩ | ⟨k, hk, h, hp, _⟩
  · omega
  · have e := isNm_iff.1 hp
    have h1 := enum_name hv hk
    rw [e, itoa_bad] at h1
    cases h1
theorem name_ne {s : ByteArray} (h : vName s = true) : s ≠ (⟨#[]⟩ : ByteArray) := by
  intro e
  subst e
  revert h
  decide
end Go.Proofs.YtboehlffbibgmaaDoor
