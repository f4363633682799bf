import Derived.Test.YtnaojafidhloeaaMarkS
namespace Go.Proofs.Ytnaojafidhloeaa
open Go.RowKit
set_option linter.unusedVariables false
set_option maxRecDepth 100000

/-! ### rows of definitions -/
def marksD (k0 : Int) (k : Nat) : List Value := (List.range k).flatMap fun i => [.string (mk (k0 + 2 * (i : Nat))), .int .i64 (k0 + 2 * (i : Nat) + 1)]
theorem marksD_succ (k0 : Int) (k : Nat) : marksD k0 (k + 1) = marksD k0 k ++ [.string (mk (k0 + 2 * k)), .int .i64 (k0 + 2 * k + 1)] := by
  unfold marksD; rw [List.range_succ, List.flatMap_append]; simp
theorem marksD_length (k0 : Int) (k : Nat) : (marksD k0 k).length = k * 2 := by
  induction k with
  | zero => rfl
  | succ k ih => rw [marksD_succ]; simp [ih]; omega
theorem marksD_get (k0 : Int) (n k : Nat) (h : k < n) : (marksD k0 n)[k * 2]? = some (.string (mk (k0 + 2 * k))) ∧ (marksD k0 n)[k * 2 + 1]? = some (.int .i64 (k0 + 2 * k + 1)) := by
  induction n with
  | zero => omega
  | succ n ih =>
    rw [marksD_succ]
    by_cases e : k = n
    · subst e
      rw [List.getElem?_append_right (by rw [marksD_length]; omega), List.getElem?_append_right (by rw [marksD_length]; omega), marksD_length]
      simp
    · rw [List.getElem?_append_left (by rw [marksD_length]; omega), List.getElem?_append_left (by rw [marksD_length]; omega)]
      exact ih (by omega)






/-! ### numbers -/
def marksI (k0 : Int) (k : Nat) : List Value := (List.range k).map fun i => .int .i64 (k0 + (i : Nat))
theorem marksI_succ (k0 : Int) (k : Nat) : marksI k0 (k + 1) = marksI k0 k ++ [.int .i64 (k0 + k)] := by
  unfold marksI; rw [List.range_succ, List.map_append]; rfl
theorem marksI_get (k0 : Int) (n k : Nat) (h : k < n) : (marksI k0 n)[k]? = some (.int .i64 (k0 + k)) := by
  unfold marksI; rw [List.getElem?_map, List.getElem?_range h]; rfl




theorem own_ne {W W' : World} {b1 b2 s1 s2 n1 n2 : Nat} {e1 e2 : TypeId} {v1 v2 : Value} {x1 x2 : List Value} (h1 : W.ownsRow b1 e1 s1 v1 n1 x1) (h2 : W'.ownsRow b2 e2 s2 v2 n2 x2) (hle : W.heap.size ≤ b2) : v1.ownBlock = none ∨ v1.ownBlock ≠ v2.ownBlock := by
  cases hk : v1.ownBlock with
  | none => exact .inl rfl
  | some k =>
    refine .inr fun e => ?_
    have q1 := h1.lt k hk
    have q2 := h2.lt k e.symm
    omega
theorem own_sym {v1 v2 : Value} (h : v1.ownBlock = none ∨ v1.ownBlock ≠ v2.ownBlock) : v2.ownBlock = none ∨ v2.ownBlock ≠ v1.ownBlock := by
  rcases h with h | h
  · cases e : v2.ownBlock with
    | none => exact .inl rfl
    | some k => exact .inr (by rw [h]; exact fun h => by cases h)
  · exact .inr (Ne.symm h)

/-- A fresh slice of numbers. -/
def flatI (ss : List Int) : List Value := ss.map (Value.int .i64)
theorem flatI_length (ss : List Int) : (flatI ss).length = ss.length := by simp [flatI]
def IntsP (ss : List Int) (w : World) (e : Ending) (w' : World) : Prop :=
  ∃ A c, e = .returned (.slice A ss.length c) ∧ w'.ownsRow w.heap.size 3 1 (.slice A ss.length c) ss.length (flatI ss) ∧ Below w.heap.size w w'
theorem si_of_own {w : World} {base n c : Nat} {A : Option Addr} {e : TypeId} {ss : List Int} (h : w.ownsRow base e 1 (.slice A n c) n (flatI ss)) (hok : ∀ s ∈ ss, -9223372036854775808 ≤ s ∧ s ≤ 9223372036854775807) : SI w w.heap.size A n c ss := by
  have hl : ss.length = n := by have := h.1; rw [flatI_length] at this; omega
  rcases h.2 with ⟨h1, h2⟩ | ⟨g, cap, cur, h1, hb, hg, hc, hm, hs, ht⟩
  · injection h1 with e1 e2 e3
    exact ⟨.inl (List.eq_nil_of_length_eq_zero (by omega)), hl, by omega, by subst e3; unfold maxLen; omega, hok⟩
  · injection h1 with e1 e2 e3
    subst e1 e3
    refine ⟨.inr ⟨g, 0, rfl, (Array.getElem?_eq_some_iff.1 hg).1, fun i x hi j v hj => ?_⟩, hl, hc, hm, hok⟩
    obtain ⟨hil, rfl⟩ := List.getElem?_eq_some_iff.1 hi
    match j, hj with
    | 0, hj =>
      simp [encI] at hj
      subst hj
      rw [show 0 + i * 1 + 0 = i from by omega, h.cellAt i (by omega)]
      unfold flatI
      rw [List.getElem?_map, List.getElem?_eq_getElem hil]
      rfl
    | j + 1, hj => simp [encI] at hj
end Go.Proofs.Ytnaojafidhloeaa
