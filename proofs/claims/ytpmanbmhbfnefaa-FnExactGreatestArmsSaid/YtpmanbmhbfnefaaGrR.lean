import Derived.Test.YtpmanbmhbfnefaaGrQ
namespace Go.Proofs.Ytpmanbmhbfnefaa
open Go.RowKit Go.Maps
set_option linter.unusedVariables false
set_option maxRecDepth 100000

/-! ### the program's row of arms: the same -/
theorem and_zeroG {t n : Nat} : t &&& n = 0 ↔ ∀ i, t.testBit i = true → n.testBit i = false := by
  constructor
  · intro h i hi
    have h2 := congrArg (fun x => x.testBit i) h
    simp only [Nat.testBit_and, hi, Bool.true_and, Nat.zero_testBit] at h2
    exact h2
  · intro h
    apply tb_ext
    intro i
    rw [Nat.testBit_and, Nat.zero_testBit]
    cases ht : t.testBit i
    · rfl
    · rw [h i ht]; rfl
theorem part_free {m t n : Nat} : partN (nl m t) n = (partN m n && decide (t &&& n = 0)) := by
  unfold partN
  rw [Bool.eq_iff_iff, Bool.and_eq_true, decide_eq_true_iff, decide_eq_true_iff, decide_eq_true_iff, nl_zero, nl_zero, and_zeroG]
  constructor
  · intro h
    refine ⟨fun i hi => ?_, fun i hi => ?_⟩
    · have := h i hi
      rw [tb_nl, Bool.and_eq_true] at this
      exact this.1
    · cases hn : n.testBit i
      · rfl
      · have := h i hn
        rw [tb_nl, Bool.and_eq_true, hi] at this
        exact absurd this.2 (by decide)
  · rintro ⟨h1, h2⟩ i hi
    rw [tb_nl, h1 i hi, Bool.true_and]
    cases ht : t.testBit i
    · rfl
    · rw [h2 i ht] at hi; cases hi
theorem partsTo_more {a : Nat} : ∀ d, partsTo a (a + 1 + d) = partsTo a (a + 1)
  | 0 => rfl
  | d + 1 => by
    rw [show a + 1 + (d + 1) = a + 1 + d + 1 by omega, partsTo_succ, partsTo_more d]
    have : partN a (a + 1 + d) = false := by
      unfold partN
      rw [decide_eq_false_iff_not]
      intro h
      have := part_le h
      omega
    rw [this]
    simp
/-- The parts beside an arm's bits: of the parts those that have none of them. -/
theorem others_filter (m t : Nat) : othersOf m (t : Int) = (partsTo m (m + 1)).filter fun q => decide (t &&& q.toNat = 0) := by
  unfold othersOf
  rw [Int.toNat_natCast]
  have h := nl_le m t
  rw [← partsTo_more (a := nl m t) (m - nl m t), show nl m t + 1 + (m - nl m t) = m + 1 by omega]
  unfold partsTo
  rw [List.filter_map]
  congr 1
  rw [List.filter_filter]
  congr 1
  funext n
  rw [part_free, Bool.and_comm]
  rfl
/-- The row of one number, as the program makes it: over all numbers, those with a bit of it passed over. -/
def rowW (all list : List Int) (p : Int) (qs : List Int) : List Ar := (qs.filter fun q => decide (p.toNat &&& q.toNat = 0) && okIn all list p.toNat q.toNat).map fun q => ⟨p, q⟩
theorem rowW_snoc {all list qs : List Int} {p : Int} {k : Nat} (hk : k < qs.length) : rowW all list p (qs.take (k + 1)) = rowW all list p (qs.take k) ++ if decide (p.toNat &&& qs[k].toNat = 0) && okIn all list p.toNat qs[k].toNat then [⟨p, qs[k]⟩] else [] := by
  unfold rowW
  rw [List.take_succ_eq_append_getElem hk, List.filter_append, List.map_append]
  congr 1
  rw [List.filter_cons, List.filter_nil]
  cases (decide (p.toNat &&& qs[k].toNat = 0) && okIn all list p.toNat qs[k].toNat) <;> rfl
theorem rowW_is (m t : Nat) (list : List Int) : rowW (partsTo m (m + 1)) list (t : Int) (partsTo m (m + 1)) = rowA (partsTo m (m + 1)) list (t : Int) (othersOf m (t : Int)) := by
  unfold rowW rowA
  rw [others_filter, List.filter_filter, Int.toNat_natCast]
  congr 2
  funext q
  rw [Bool.and_comm]
end Go.Proofs.Ytpmanbmhbfnefaa
