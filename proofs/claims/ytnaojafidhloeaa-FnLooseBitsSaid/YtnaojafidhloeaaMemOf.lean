import Derived.Test.YtnaojafidhloeaaApp
namespace Go.Proofs.Ytnaojafidhloeaa
open Go.RowKit Go.Maps
set_option linter.unusedVariables false
set_option maxRecDepth 100000

def flatS (ss : List ByteArray) : List Value := ss.map Value.string
theorem flatS_length (ss : List ByteArray) : (flatS ss).length = ss.length := by simp [flatS]
/-- A fresh slice of texts. -/
def StrsP (ss : List ByteArray) (w : World) (e : Ending) (w' : World) : Prop :=
  ∃ A c, e = .returned (.slice A ss.length c) ∧ w'.ownsRow w.heap.size 9 1 (.slice A ss.length c) ss.length (flatS ss) ∧ Below w.heap.size w w'

/-- An owned row of texts reads as a slice of them. -/
theorem ss_of_own {w : World} {base n c : Nat} {A : Option Addr} {e : TypeId} {ss : List ByteArray} (h : w.ownsRow base e 1 (.slice A n c) n (flatS ss)) (hok : ∀ s ∈ ss, s.size ≤ maxLen) : SS w w.heap.size A n c ss := by
  have hl : ss.length = n := by have := h.1; rw [flatS_length] at this; omega
  rcases h.2 with ⟨h1, h2⟩ | ⟨g, cap, cur, h1, hb, hg, hc, hm, hs, ht⟩
  · injection h1 with e1 e2 e3
    exact ⟨.inl (List.eq_nil_of_length_eq_zero (by omega)), hl, by omega, by subst e3; unfold maxLen; omega, hok⟩
  · injection h1 with e1 e2 e3
    subst e1 e3
    refine ⟨.inr ⟨g, 0, rfl, (Array.getElem?_eq_some_iff.1 hg).1, fun i x hi j v hj => ?_⟩, hl, hc, hm, hok⟩
    obtain ⟨hil, rfl⟩ := List.getElem?_eq_some_iff.1 hi
    match j, hj with
    | 0, hj =>
      simp [encS] at hj
      subst hj
      rw [show 0 + i * 1 + 0 = i from by omega, h.cellAt i (by omega)]
      unfold flatS
      rw [List.getElem?_map, List.getElem?_eq_getElem hil]
      rfl
    | j + 1, hj => simp [encS] at hj

def mMembers (ds : List D) : List ByteArray := if vEnum ds then (mems ds).map (·.name) else []
theorem mems_ok {ds : List D} (h : ∀ d ∈ ds, d.ok) : ∀ d ∈ mems ds, d.ok := fun d hd => h d (memTo_in ds _ d hd)
theorem mems_len {ds : List D} : (mems ds).length ≤ ds.length := by unfold mems; rw [memTo_len]; exact memCnt_le _ _

theorem mMembers_ok {ds : List D} (h : ∀ d ∈ ds, d.ok) : ∀ t ∈ mMembers ds, t.size ≤ maxLen := by
  unfold mMembers
  split
  · intro t ht
    simp at ht
    obtain ⟨d, hd, rfl⟩ := ht
    exact (mems_ok h d hd).1
  · intro t ht; cases ht
theorem mMembers_len (ds : List D) : (mMembers ds).length ≤ 12 := by
  unfold mMembers
  split
  · rename_i hv
    have := vEnum_len hv
    have := mems_len (ds := ds)
    simp; omega
  · simp
end Go.Proofs.Ytnaojafidhloeaa
