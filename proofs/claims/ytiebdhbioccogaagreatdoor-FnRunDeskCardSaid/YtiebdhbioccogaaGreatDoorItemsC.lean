import Derived.Test.YtiebdhbioccogaaGreatDoorBaseC
namespace Go.Proofs.YtiebdhbioccogaaGreatDoor
open Go.RowKit
set_option linter.unusedVariables false
set_option maxRecDepth 100000

def flatT (ts : List It) : List Value := ts.flatMap encT
theorem flatT_cons (d : It) (r : List It) : flatT (d :: r) = .string d.name :: .bool d.auto :: .int .i64 d.val :: flatT r := by simp [flatT, encT]
theorem flatT_length (ts : List It) : (flatT ts).length = ts.length * 3 := by
  induction ts with
  | nil => rfl
  | cons d r ih => rw [flatT_cons]; simp [ih]; omega
theorem flatT_get (ts : List It) (i : Nat) (h : i < ts.length) : (flatT ts)[i * 3]? = some (.string ts[i].name) ∧ (flatT ts)[i * 3 + 1]? = some (.bool ts[i].auto) ∧ (flatT ts)[i * 3 + 2]? = some (.int .i64 ts[i].val) := by
  induction ts generalizing i with
  | nil => simp at h
  | cons d r ih =>
    rw [flatT_cons]
    cases i with
    | zero => simp
    | succ i =>
      have := ih i (by simpa using h)
      rw [show (i + 1) * 3 = i * 3 + 1 + 1 + 1 from by omega, show i * 3 + 1 + 1 + 1 + 1 = (i * 3 + 1) + 1 + 1 + 1 from rfl, show i * 3 + 1 + 1 + 1 + 2 = (i * 3 + 2) + 1 + 1 + 1 from rfl]
      simpa using this
theorem flatT_snoc (ts : List It) (k : Nat) (h : k < ts.length) : flatT (ts.take (k + 1)) = flatT (ts.take k) ++ [.string ts[k].name, .bool ts[k].auto, .int .i64 ts[k].val] := by
  unfold flatT
  rw [List.take_succ_eq_append_getElem h, List.flatMap_append]
  simp only [List.flatMap_cons, List.flatMap_nil, List.append_nil]
  rfl
theorem info_T : (Tryz.prog.info? 103).map (fun i => (i.zero, i.size, i.bytes)) = some (some (.agg #[.string ByteArray.empty, .bool false, .int .i64 0]), 3, 32) := by kernel_rfl

/-- An owned row of items reads as a slice of them. -/
theorem st_of_own {w : World} {base n c : Nat} {A : Option Addr} {e : TypeId} {ts : List It} (h : w.ownsRow base e 3 (.slice A n c) n (flatT ts)) (hok : ∀ d ∈ ts, d.ok) : ST w w.heap.size A n c ts := by
  have hl : ts.length = n := by have := h.1; rw [flatT_length] at this; omega
  rcases h.2 with ⟨h1, h2⟩ | ⟨g, cap, cur, h1, hb, hg, hc, hm, hs, ht⟩
  · injection h1 with e1 e2 e3
    exact ⟨.inl (List.eq_nil_of_length_eq_zero (by omega)), hl, by omega, by subst e3; unfold maxLen; omega, hok⟩
  · injection h1 with e1 e2 e3
    subst e1 e3
    refine ⟨.inr ⟨g, 0, rfl, (Array.getElem?_eq_some_iff.1 hg).1, fun i x hi j v hj => ?_⟩, hl, hc, hm, hok⟩
    obtain ⟨hil, rfl⟩ := List.getElem?_eq_some_iff.1 hi
    obtain ⟨q1, q2, q3⟩ := flatT_get ts i hil
    have hc : ∀ j, j < n * 3 → w.cell? ⟨g, j, none⟩ = (flatT ts)[j]? := fun j hj => h.cellAt j hj
    match j, hj with
    | 0, hj =>
      simp [encT] at hj
      subst hj
      rw [show 0 + i * 3 + 0 = i * 3 from by omega, hc _ (by omega)]
      exact q1
    | 1, hj =>
      simp [encT] at hj
      subst hj
      rw [show 0 + i * 3 + 1 = i * 3 + 1 from by omega, hc _ (by omega)]
      exact q2
    | 2, hj =>
      simp [encT] at hj
      subst hj
      rw [show 0 + i * 3 + 2 = i * 3 + 2 from by omega, hc _ (by omega)]
      exact q3
    | j + 3, hj => simp [encT] at hj
theorem take_three {xs : List Value} {k : Nat} {a b c : Value} {ys : List Value} (h : xs.take (k * 3) = ys) (hk : k * 3 + 2 < xs.length) : (((xs.set (k * 3) a).set (k * 3 + 1) b).set (k * 3 + 2) c).take ((k + 1) * 3) = ys ++ [a, b, c] := by
  have e : (k + 1) * 3 = k * 3 + 1 + 1 + 1 := by omega
  rw [e, List.take_succ_eq_append_getElem (by simp; omega), List.take_succ_eq_append_getElem (by simp; omega), List.take_succ_eq_append_getElem (by simp; omega)]
  rw [List.take_set_of_le (by omega), List.take_set_of_le (by omega), List.take_set_of_le (by omega), h]
  simp

end Go.Proofs.YtiebdhbioccogaaGreatDoor
