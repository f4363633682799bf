import Derived.Test.YteaiaglangmhbaaDoorBaseD
namespace Go.Proofs.YteaiaglangmhbaaDoor
set_option linter.unusedVariables false

/-! ### the enumeration of the names of one bit: no program in sight -/
theorem popc_one : ∀ (k x : Nat), x < 2 ^ k → popc x = 1 → ∃ i, i < k ∧ x = 2 ^ i := by
  intro k
  induction k with
  | zero => intro x hx h
            have h0 : x = 0 := by simpa using hx
            rw [h0, popc_zero] at h
            cases h
  | succ k ih =>
    intro x hx h
    have hx0 : 0 < x := by
      by_cases h0 : x = 0
      · subst h0; rw [popc_zero] at h; cases h
      · omega
    rw [popc_pos hx0] at h
    have hlt : x / 2 < 2 ^ k := by rw [Nat.pow_succ] at hx; omega
    by_cases h1 : x % 2 = 1
    · have h2 : popc (x / 2) = 0 := by omega
      have h3 : x / 2 = 0 := by
        by_cases h0 : x / 2 = 0
        · exact h0
        · rw [popc_pos (by omega)] at h2
          have : ∀ n, popc n = 0 → n = 0 := by
            intro n
            induction n using Nat.strongRecOn with
            | _ n ihn =>
              intro hn
              by_cases hz : n = 0
              · exact hz
              · rw [popc_pos (by omega)] at hn
                have := ihn (n / 2) (by omega) (by omega)
                omega
          have := this (x / 2) (by rw [popc_pos (by omega)]; omega)
          omega
      exact ⟨0, by omega, by omega⟩
    · obtain ⟨i, hi, he⟩ := ih (x / 2) hlt (by omega)
      exact ⟨i + 1, by omega, by rw [Nat.pow_succ]; omega⟩
/-- The definition has one bit. -/
def oneB (d : D) : Bool := decide (popc d.val.toNat = 1)
def idxD (d : D) : D := ⟨d.name, (Nat.log2 d.val.toNat : Nat)⟩
def mEnu (ds : List D) : List D := (ds.filter oneB).map idxD
def mEnum (ds : List D) (b : Int) : List D := if vFlag ds b then mEnu ds else []
def enuTo (ds : List D) (k : Nat) : List D := mEnu (ds.take k)
theorem enuTo_succ (ds : List D) (k : Nat) (h : k < ds.length) : enuTo ds (k + 1) = enuTo ds k ++ if oneB ds[k] then [idxD ds[k]] else [] := by
  unfold enuTo mEnu
  rw [List.take_succ_eq_append_getElem h, List.filter_append, List.map_append]
  congr 1
  cases h1 : oneB ds[k] <;> simp [h1]
theorem mEnu_len (ds : List D) : (mEnu ds).length ≤ ds.length := by unfold mEnu; rw [List.length_map]; exact List.length_filter_le _ _
theorem enuTo_len (ds : List D) (k : Nat) : (enuTo ds k).length ≤ k := by
  have := mEnu_len (ds.take k)
  have h2 : (ds.take k).length ≤ k := by simp; omega
  unfold enuTo; omega
theorem enuTo_all (ds : List D) : enuTo ds ds.length = mEnu ds := by unfold enuTo; rw [List.take_of_length_le (Nat.le_refl _)]
theorem mEnu_ok {ds : List D} (h : ∀ d ∈ ds, d.ok) (hin : ∀ d ∈ ds, inR d) : ∀ d ∈ mEnu ds, d.ok := by
  intro d hd
  obtain ⟨e, he, rfl⟩ := List.mem_map.1 hd
  have he := (List.mem_filter.1 he).1
  have h1 := (h e he).1
  have h2 := hin e he
  have h3 : Nat.log2 e.val.toNat ≤ e.val.toNat := Nat.log2_le_self _
  unfold inR at h2
  refine ⟨h1, ?_, ?_⟩ <;> (show _ ≤ _; unfold idxD; simp only; omega)
theorem mEnum_len (ds : List D) (b : Int) : (mEnum ds b).length ≤ 12 := by
  unfold mEnum
  cases hv : vFlag ds b
  · exact Nat.zero_le _
  · exact Nat.le_trans (mEnu_len ds) (vFlag_len hv)
theorem mEnum_ok {ds : List D} {b : Int} (h : ∀ d ∈ ds, d.ok) : ∀ d ∈ mEnum ds b, d.ok := by
  unfold mEnum
  cases hv : vFlag ds b
  · intro d hd; cases hd
  · exact mEnu_ok h (vFlag_in hv)
theorem log_pow (i : Nat) : Nat.log2 (2 ^ i) = i := Nat.log2_two_pow
end Go.Proofs.YteaiaglangmhbaaDoor
