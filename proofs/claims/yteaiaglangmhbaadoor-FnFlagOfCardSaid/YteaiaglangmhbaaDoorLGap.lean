import Derived.Test.YteaiaglangmhbaaDoorBaseC
namespace Go.Proofs.YteaiaglangmhbaaDoor
open Go.RowKit
set_option linter.unusedVariables false
set_option maxRecDepth 100000

theorem gapsTo_none (ds : List D) (l : Int) (k : Nat) : ∀ t ∈ gapsTo ds l k, fidx (isVal t) ds < 0 := by
  induction k with
  | zero => intro t h; cases h
  | succ k ih =>
    intro t h
    rw [gapsTo_succ] at h
    rcases List.mem_append.1 h with h | h
    · exact ih t h
    · split at h
      · simp at h; subst h; assumption
      · cases h
theorem gapsTo_has (ds : List D) (l : Int) (k : Nat) (t : Int) (h0 : l ≤ t) (h1 : t < l + k) (h2 : fidx (isVal t) ds < 0) : t ∈ gapsTo ds l k := by
  induction k with
  | zero => omega
  | succ k ih =>
    rw [gapsTo_succ]
    by_cases e : t = l + k
    · subst e; rw [if_pos h2]; simp
    · exact List.mem_append_left _ (ih (by omega))
theorem gapsTo_up (ds : List D) (l : Int) (k : Nat) : (gapsTo ds l k).Pairwise (· < ·) := by
  induction k with
  | zero => exact List.Pairwise.nil
  | succ k ih =>
    rw [gapsTo_succ, List.pairwise_append]
    refine ⟨ih, ?_, ?_⟩
    · split
      · exact List.pairwise_singleton _ _
      · exact List.Pairwise.nil
    · intro a ha b hb
      split at hb
      · simp at hb
        subst hb
        exact (gapsTo_in ds l k a ha).2
      · cases hb
/-- What is so of the gaps that are told. -/
structure GapsFit (ds : List D) (zs : List Int) : Prop where
  none : ∀ t ∈ zs, fidx (isVal t) ds < 0
  up : ∀ i (h : i + 1 < zs.length), zs[i] < zs[i + 1]
  low : ∀ h : 0 < zs.length, ¬ fidx (isVal (zs[0] - 1)) ds < 0
  high : ∀ h : 0 < zs.length, ¬ fidx (isVal (zs[zs.length - 1] + 1)) ds < 0
  bd : ∀ t ∈ zs, -1000 ≤ t ∧ t ≤ 1000
theorem gaps_fit {ds : List D} (hv : vEnum ds = true) (hne : ds ≠ []) (hfew : ¬ 30 < (gapsTo ds (lo ds) (hi ds - lo ds).toNat).length) : GapsFit ds (mGaps ds) := by
  rw [mGaps_few hv hne hfew]
  clear hfew
  obtain ⟨r0, r1, r2⟩ := range_in hv hne
  obtain ⟨dl, hdl, el⟩ := loTo_in ds hne ds.length (Nat.le_refl _)
  obtain ⟨dh, hdh, eh⟩ := hiTo_in ds hne ds.length (Nat.le_refl _)
  have el : dl.val = lo ds := el
  have eh : dh.val = hi ds := eh
  have hL : ¬ fidx (isVal (lo ds)) ds < 0 := by rw [← el]; exact fidx_of_mem hdl
  have hH : ¬ fidx (isVal (hi ds)) ds < 0 := by rw [← eh]; exact fidx_of_mem hdh
  have hK : lo ds + ((hi ds - lo ds).toNat : Int) = hi ds := by omega
  generalize hk : (hi ds - lo ds).toNat = K at *
  have hin := gapsTo_in ds (lo ds) K
  have hno := gapsTo_none ds (lo ds) K
  have hhas := gapsTo_has ds (lo ds) K
  have hup := List.pairwise_iff_getElem.1 (gapsTo_up ds (lo ds) K)
  generalize gapsTo ds (lo ds) K = zs at *
  refine ⟨hno, fun i h => hup i (i + 1) (by omega) h (by omega), fun h hn => ?_, fun h hn => ?_, fun t ht => by have := hin t ht; omega⟩
  · have hm := List.getElem_mem h
    have b := hin _ hm
    have n0 := hno _ hm
    have hne2 : zs[0] ≠ lo ds := fun e => hL (by rw [← e]; exact n0)
    have := hhas (zs[0] - 1) (by omega) (by omega) hn
    obtain ⟨i, hi, e⟩ := List.mem_iff_getElem.1 this
    rcases Nat.eq_zero_or_pos i with rfl | hpos
    · omega
    · have := hup 0 i h hi hpos; omega
  · have hm := List.getElem_mem (show zs.length - 1 < zs.length by omega)
    have b := hin _ hm
    by_cases e2 : zs[zs.length - 1] + 1 = hi ds
    · rw [e2] at hn; exact hH hn
    · have := hhas (zs[zs.length - 1] + 1) (by omega) (by omega) hn
      obtain ⟨i, hi, e⟩ := List.mem_iff_getElem.1 this
      by_cases e3 : i = zs.length - 1
      · subst e3; omega
      · have := hup i (zs.length - 1) hi (by omega) (by omega); omega
end Go.Proofs.YteaiaglangmhbaaDoor
