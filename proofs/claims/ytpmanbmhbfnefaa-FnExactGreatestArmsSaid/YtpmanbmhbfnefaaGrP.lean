import Derived.Test.YtpmanbmhbfnefaaArmV
namespace Go.Proofs.Ytpmanbmhbfnefaa
open Go.RowKit Go.Maps
set_option linter.unusedVariables false
set_option maxRecDepth 100000

/-! ### greatest arms: the model -/
/-- All numbers that the arm p, q matches are in a list. -/
def okIn (all list : List Int) (p q : Nat) : Bool := all.all fun n => !matchN p q n.toNat || list.any fun y => decide (y = n)
def rowA (all list : List Int) (p : Int) (qs : List Int) : List Ar := (qs.filter fun q => okIn all list p.toNat q.toNat).map fun q => ⟨p, q⟩
def othersOf (m : Nat) (p : Int) : List Int := partsTo (nl m p.toNat) (nl m p.toNat + 1)
def armsA (m : Nat) (all list ps : List Int) : List Ar := ps.flatMap fun p => rowA all list p (othersOf m p)
def mArmsIn (m : Nat) (list : List Int) : List Ar := armsA m (partsTo m (m + 1)) list (partsTo m (m + 1))
theorem okIn_snoc {all list : List Int} {p q k : Nat} (hk : k < all.length) : okIn (all.take (k + 1)) list p q = (okIn (all.take k) list p q && (!matchN p q all[k].toNat || list.any fun y => decide (y = all[k]))) := by
  unfold okIn
  rw [List.take_succ_eq_append_getElem hk, List.all_append, List.all_cons, List.all_nil, Bool.and_true]
theorem okIn_no {all list : List Int} {p q k : Nat} (hk : k < all.length) (h : (!matchN p q all[k].toNat || list.any fun y => decide (y = all[k])) = false) : okIn all list p q = false := by
  unfold okIn
  rw [List.all_eq_false]
  exact ⟨_, List.getElem_mem hk, by rw [h]; exact Bool.false_ne_true⟩
theorem rowA_snoc {all list qs : List Int} {p : Int} {k : Nat} (hk : k < qs.length) : rowA all list p (qs.take (k + 1)) = rowA all list p (qs.take k) ++ if okIn all list p.toNat qs[k].toNat then [⟨p, qs[k]⟩] else [] := by
  unfold rowA
  rw [List.take_succ_eq_append_getElem hk, List.filter_append, List.map_append]
  congr 1
  rw [List.filter_cons, List.filter_nil]
  cases okIn all list p.toNat qs[k].toNat <;> rfl
theorem armsA_snoc {m : Nat} {all list ps : List Int} {k : Nat} (hk : k < ps.length) : armsA m all list (ps.take (k + 1)) = armsA m all list (ps.take k) ++ rowA all list ps[k] (othersOf m ps[k]) := by
  unfold armsA
  rw [List.take_succ_eq_append_getElem hk, List.flatMap_append]
  simp only [List.flatMap_cons, List.flatMap_nil, List.append_nil]
theorem rowA_len (all list qs : List Int) (p : Int) : (rowA all list p qs).length ≤ qs.length := by
  unfold rowA
  rw [List.length_map]
  exact List.length_filter_le _ _
theorem armsA_len {m : Nat} {all list : List Int} {c : Nat} : ∀ ps : List Int, (∀ p ∈ ps, (othersOf m p).length ≤ c) → (armsA m all list ps).length ≤ ps.length * c
  | [], _ => by simp [armsA]
  | p :: ps, h => by
    have h1 := armsA_len (all := all) (list := list) ps (fun p hp => h p (List.mem_cons_of_mem _ hp))
    have h2 := rowA_len all list (othersOf m p) p
    have h3 := h p (List.mem_cons_self ..)
    unfold armsA at h1 ⊢
    rw [List.flatMap_cons, List.length_append, List.length_cons, Nat.succ_mul]
    omega
/-! ### how many parts there are -/
theorem popcG_step (a : Nat) : popc a = a % 2 + popc (a / 2) := by
  by_cases h : a = 0
  · subst h; simp [popc_zero]
  · exact popc_pos (by omega)
theorem countG_two (p : Nat → Bool) (m : Nat) : ((List.range (2 * m)).filter p).length = ((List.range m).filter fun n => p (2 * n)).length + ((List.range m).filter fun n => p (2 * n + 1)).length := by
  induction m with
  | zero => rfl
  | succ m ih =>
    rw [show 2 * (m + 1) = 2 * m + 1 + 1 by omega, List.range_succ, List.range_succ, List.range_succ]
    simp only [List.filter_append, List.length_append, ih, List.filter_cons, List.filter_nil]
    cases p (2 * m) <;> cases p (2 * m + 1) <;> simp <;> omega
theorem partG_half (x y : Nat) : nl x y = 0 ↔ nl (x / 2) (y / 2) = 0 ∧ (x % 2 = 1 → y % 2 = 1) := by
  rw [nl_zero, nl_zero]
  constructor
  · intro h
    refine ⟨fun i hi => ?_, fun hx => ?_⟩
    · rw [Nat.testBit_div_two] at hi ⊢; exact h _ hi
    · have := h 0 (by rw [Nat.testBit_zero]; simp [hx])
      rw [Nat.testBit_zero] at this
      simpa using this
  · rintro ⟨h1, h2⟩ i hi
    cases i with
    | zero => rw [Nat.testBit_zero] at *; simp at *; exact h2 hi
    | succ i => rw [← Nat.testBit_div_two] at *; exact h1 i hi
theorem partsG_count (a : Nat) : ((List.range (a + 1)).filter (partN a)).length = 2 ^ popc a := by
  induction a using Nat.strongRecOn with
  | ind a ih =>
    by_cases h0 : a = 0
    · subst h0; decide +kernel
    · have ih2 := ih (a / 2) (by omega)
      have he : ∀ n, partN a (2 * n) = partN (a / 2) n := fun n => by
        unfold partN; rw [decide_eq_decide, partG_half, show 2 * n / 2 = n by omega]
        constructor
        · exact fun h => h.1
        · exact fun h => ⟨h, fun h2 => by omega⟩
      have ho : ∀ n, partN a (2 * n + 1) = (partN (a / 2) n && decide (a % 2 = 1)) := fun n => by
        rw [Bool.eq_iff_iff, Bool.and_eq_true, decide_eq_true_iff]
        unfold partN; rw [decide_eq_true_iff, decide_eq_true_iff, partG_half, show (2 * n + 1) / 2 = n by omega]
        constructor
        · exact fun h => ⟨h.1, h.2 (by omega)⟩
        · exact fun h => ⟨h.1, fun _ => h.2⟩
      have hc := countG_two (partN a) (a / 2 + 1)
      have e1 : (fun n => partN a (2 * n)) = partN (a / 2) := funext he
      rw [e1, ih2] at hc
      by_cases hodd : a % 2 = 1
      · have e2 : (fun n => partN a (2 * n + 1)) = partN (a / 2) := funext fun n => by rw [ho, decide_eq_true hodd, Bool.and_true]
        rw [e2, ih2, show 2 * (a / 2 + 1) = a + 1 by omega] at hc
        rw [hc, popcG_step a, hodd, Nat.add_comm 1, Nat.pow_succ]; omega
      · have e2 : (fun n => partN a (2 * n + 1)) = fun _ => false := funext fun n => by rw [ho, decide_eq_false hodd, Bool.and_false]
        rw [e2, show 2 * (a / 2 + 1) = a + 1 + 1 by omega, List.range_succ, List.filter_append, List.length_append] at hc
        have e3 : partN a (a + 1) = false := by
          rw [show a + 1 = 2 * (a / 2) + 1 by omega, ho, decide_eq_false hodd, Bool.and_false]
        rw [List.filter_cons, e3] at hc
        have e4 : ((List.range (a / 2 + 1)).filter fun _ => false) = [] := by rw [List.filter_eq_nil_iff]; intro x _ h; cases h
        rw [e4] at hc
        simp at hc
        rw [hc, popcG_step a, show a % 2 = 0 by omega, Nat.zero_add]
theorem partsG_len (a : Nat) : (partsTo a (a + 1)).length = 2 ^ popc a := by
  unfold partsTo; rw [List.length_map]; exact partsG_count a
theorem partsG_mem {p : Nat} {x : Int} (h : x ∈ partsTo p (p + 1)) : ∃ t : Nat, x = (t : Int) ∧ t ≤ p ∧ nl t p = 0 := by
  unfold partsTo at h
  obtain ⟨t, ht, rfl⟩ := List.mem_map.1 h
  obtain ⟨h1, h2⟩ := List.mem_filter.1 ht
  rw [List.mem_range] at h1
  unfold partN at h2
  exact ⟨t, rfl, by omega, by simpa using h2⟩
/-- At most 64 parts of a number of at most six bits, and of what is left of it. -/
theorem parts64 {m : Nat} (h : popc m ≤ 6) : (partsTo m (m + 1)).length ≤ 64 := by
  rw [partsG_len]
  exact Nat.le_trans (Nat.pow_le_pow_right (by omega) h) (by decide)
theorem others64 {m : Nat} (h : popc m ≤ 6) : ∀ p ∈ partsTo m (m + 1), (othersOf m p).length ≤ 64 := by
  intro p hp
  obtain ⟨t, rfl, _, h2⟩ := partsG_mem hp
  have h3 := popc_nl h2
  unfold othersOf
  rw [Int.toNat_natCast]
  exact parts64 (by omega)
/-- All of a class's arms that match only numbers of a list: at most 4096. -/
theorem armsIn_len {m : Nat} {list : List Int} (h : popc m ≤ 6) {k : Nat} : (armsA m (partsTo m (m + 1)) list ((partsTo m (m + 1)).take k)).length ≤ 4096 := by
  have h1 := armsA_len (m := m) (all := partsTo m (m + 1)) (list := list) (c := 64) ((partsTo m (m + 1)).take k) (fun p hp => others64 h p (List.mem_of_mem_take hp))
  have h2 := parts64 h
  have h3 : ((partsTo m (m + 1)).take k).length ≤ 64 := by rw [List.length_take]; omega
  have h4 := Nat.mul_le_mul_right 64 h3
  omega
end Go.Proofs.Ytpmanbmhbfnefaa
