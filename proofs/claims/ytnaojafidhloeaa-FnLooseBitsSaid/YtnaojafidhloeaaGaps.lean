import Derived.Test.YtnaojafidhloeaaRank
import Derived.Test.YtnaojafidhloeaaMarkD
namespace Go.Proofs.Ytnaojafidhloeaa
open Go.RowKit Go.Maps
set_option linter.unusedVariables false
set_option maxRecDepth 100000

/-! ### the least and the greatest value -/
def valAt (ds : List D) (k : Nat) : Int := match ds[k]? with | some d => d.val | none => 0
theorem valAt_get (ds : List D) (k : Nat) (h : k < ds.length) : valAt ds k = ds[k].val := by unfold valAt; rw [List.getElem?_eq_getElem h]
def loTo (ds : List D) : Nat → Int
  | 0 => valAt ds 0
  | k + 1 => min (loTo ds k) (valAt ds k)
def hiTo (ds : List D) : Nat → Int
  | 0 => valAt ds 0
  | k + 1 => max (hiTo ds k) (valAt ds k)
def lo (ds : List D) : Int := loTo ds ds.length
def hi (ds : List D) : Int := hiTo ds ds.length
theorem loTo_in (ds : List D) (h : ds ≠ []) (k : Nat) (hk : k ≤ ds.length) : ∃ d ∈ ds, d.val = loTo ds k := by
  have h0 : 0 < ds.length := List.length_pos_iff.2 h
  induction k with
  | zero => exact ⟨ds[0], List.getElem_mem h0, (valAt_get ds 0 h0).symm⟩
  | succ k ih =>
    obtain ⟨d, hd, e⟩ := ih (by omega)
    show ∃ d ∈ ds, d.val = min (loTo ds k) (valAt ds k)
    rcases Int.le_total (loTo ds k) (valAt ds k) with h1 | h1
    · rw [Int.min_eq_left h1]; exact ⟨d, hd, e⟩
    · rw [Int.min_eq_right h1]; exact ⟨ds[k], List.getElem_mem _, (valAt_get ds k (by omega)).symm⟩
theorem hiTo_in (ds : List D) (h : ds ≠ []) (k : Nat) (hk : k ≤ ds.length) : ∃ d ∈ ds, d.val = hiTo ds k := by
  have h0 : 0 < ds.length := List.length_pos_iff.2 h
  induction k with
  | zero => exact ⟨ds[0], List.getElem_mem h0, (valAt_get ds 0 h0).symm⟩
  | succ k ih =>
    obtain ⟨d, hd, e⟩ := ih (by omega)
    show ∃ d ∈ ds, d.val = max (hiTo ds k) (valAt ds k)
    rcases Int.le_total (hiTo ds k) (valAt ds k) with h1 | h1
    · rw [Int.max_eq_right h1]; exact ⟨ds[k], List.getElem_mem _, (valAt_get ds k (by omega)).symm⟩
    · rw [Int.max_eq_left h1]; exact ⟨d, hd, e⟩
theorem lo_le_hi (ds : List D) (k : Nat) : loTo ds k ≤ hiTo ds k := by
  induction k with
  | zero => exact Int.le_refl _
  | succ k ih =>
    show min (loTo ds k) (valAt ds k) ≤ max (hiTo ds k) (valAt ds k)
    omega
theorem fidx_of_mem {ds : List D} {d : D} (h : d ∈ ds) : ¬ fidx (isVal d.val) ds < 0 := by
  rcases fidx_cases (isVal d.val) ds with ⟨h1, hn⟩ | ⟨j, hj, h1, _⟩
  · obtain ⟨i, hi, rfl⟩ := List.mem_iff_getElem.1 h
    have := hn i hi hi
    unfold isVal at this; simp at this
  · omega

/-- The values from l on, k of them, that no definition has. -/
def gapsTo (ds : List D) (l : Int) : Nat → List Int
  | 0 => []
  | k + 1 => gapsTo ds l k ++ if fidx (isVal (l + k)) ds < 0 then [l + (k : Int)] else []
theorem gapsTo_mono (ds : List D) (l : Int) (k m : Nat) (h : k ≤ m) : (gapsTo ds l k).length ≤ (gapsTo ds l m).length := by
  induction m with
  | zero =>
    obtain rfl : k = 0 := by omega
    exact Nat.le_refl _
  | succ m ih =>
    by_cases e : k = m + 1
    · subst e; exact Nat.le_refl _
    · have := ih (by omega)
      show _ ≤ (gapsTo ds l m ++ _).length
      rw [List.length_append]
      omega
theorem gapsTo_in (ds : List D) (l : Int) (k : Nat) : ∀ t ∈ gapsTo ds l k, l ≤ t ∧ t < l + k := by
  induction k with
  | zero => intro t h; cases h
  | succ k ih =>
    intro t h
    unfold gapsTo at h
    rcases List.mem_append.1 h with h | h
    · have := ih t h; omega
    · split at h
      · simp at h; omega
      · cases h
def mGaps (ds : List D) : List Int :=
  if vEnum ds = true ∧ ds ≠ [] then (if 30 < (gapsTo ds (lo ds) (hi ds - lo ds).toNat).length then [] else gapsTo ds (lo ds) (hi ds - lo ds).toNat) else []
theorem mGaps_no {ds : List D} (h : vEnum ds = false ∨ ds = []) : mGaps ds = [] := by
  unfold mGaps
  rw [if_neg]
  intro ⟨h1, h2⟩
  rcases h with h | h
  · rw [h1] at h; cases h
  · exact h2 h
theorem mGaps_many {ds : List D} (h1 : vEnum ds = true) (h2 : ds ≠ []) (k : Nat) (hk : k ≤ (hi ds - lo ds).toNat) (h : 30 < (gapsTo ds (lo ds) k).length) : mGaps ds = [] := by
  unfold mGaps
  rw [if_pos ⟨h1, h2⟩, if_pos (Nat.lt_of_lt_of_le h (gapsTo_mono _ _ _ _ hk))]
theorem mGaps_few {ds : List D} (h1 : vEnum ds = true) (h2 : ds ≠ []) (h : ¬ 30 < (gapsTo ds (lo ds) (hi ds - lo ds).toNat).length) : mGaps ds = gapsTo ds (lo ds) (hi ds - lo ds).toNat := by
  unfold mGaps
  rw [if_pos ⟨h1, h2⟩, if_neg h]
theorem range_in {ds : List D} (h1 : vEnum ds = true) (h2 : ds ≠ []) : -1000 ≤ lo ds ∧ lo ds ≤ hi ds ∧ hi ds ≤ 1000 := by
  obtain ⟨d, hd, e⟩ := loTo_in ds h2 ds.length (Nat.le_refl _)
  obtain ⟨d', hd', e'⟩ := hiTo_in ds h2 ds.length (Nat.le_refl _)
  have := vEnum_val h1 d hd
  have := vEnum_val h1 d' hd'
  have := lo_le_hi ds ds.length
  unfold lo hi
  omega
theorem mGaps_ok (ds : List D) : ∀ t ∈ mGaps ds, -9223372036854775808 ≤ t ∧ t ≤ 9223372036854775807 := by
  unfold mGaps
  split
  · rename_i h
    have := range_in h.1 h.2
    split
    · intro t ht; cases ht
    · intro t ht
      have := gapsTo_in _ _ _ t ht
      omega
  · intro t ht; cases ht
theorem mGaps_len (ds : List D) : (mGaps ds).length ≤ 30 := by
  unfold mGaps
  split
  · split
    · simp
    · omega
  · simp

theorem hiTo_bd {ds : List D} (hv : vEnum ds = true) (hne : ds ≠ []) (k : Nat) : hiTo ds k ≤ 1000000 ∧ -1000000 ≤ hiTo ds k := by
  have key : ∀ k, -1000 ≤ valAt ds k ∧ valAt ds k ≤ 1000 := by
    intro k
    unfold valAt
    split
    · rename_i d e; exact vEnum_val hv d (List.mem_of_getElem? e)
    · omega
  induction k with
  | zero => have := key 0; show valAt ds 0 ≤ _ ∧ _ ≤ valAt ds 0; omega
  | succ k ih => have := key k; show max (hiTo ds k) (valAt ds k) ≤ _ ∧ _ ≤ max (hiTo ds k) (valAt ds k); omega
theorem gapsTo_succ (ds : List D) (l : Int) (k : Nat) : gapsTo ds l (k + 1) = gapsTo ds l k ++ if fidx (isVal (l + k)) ds < 0 then [l + (k : Int)] else [] := rfl
theorem gapsTo_len (ds : List D) (l : Int) (k : Nat) : (gapsTo ds l k).length ≤ k := by
  induction k with
  | zero => exact Nat.le_refl _
  | succ k ih =>
    rw [gapsTo_succ, List.length_append]
    split <;> simp <;> omega

end Go.Proofs.Ytnaojafidhloeaa
