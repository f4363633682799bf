import Derived.Test.YtiebdhbioccogaaGreatDoorFitI
namespace Go.Proofs.YtiebdhbioccogaaGreatDoor
open Go.RowKit Go.Shelf
set_option linter.unusedVariables false
set_option linter.unusedSimpArgs false
set_option maxRecDepth 100000
attribute [local go_sem] Oper.semAt_some

theorem cells_not_row {W : World} {B base size k : Nat} {cs : Array Value} {t e : TypeId} {r : Nat × Nat} {v : Value} {xs : List Value} (h : W.heap[B]? = some (Obj.cells cs t r)) (hte : t ≠ e) (hr : W.ownsRow base e size v k xs) : some B ≠ v.ownBlock := by
  rcases hr.2 with ⟨rfl, _⟩ | ⟨g, cap, cur, rfl, _, hgb, _⟩
  · simp [Value.ownBlock]
  · intro e'
    obtain rfl : B = g := by simpa [Value.ownBlock] using e'
    rw [h] at hgb
    cases hgb
    exact hte rfl
/-- The box of a definition. -/
def Box2 (W : World) (B : Nat) (d : D) : Prop := W.heap[B]? = some (.cells #[.string d.name, .int .i64 d.val] 108 (0, 0))
theorem Box2.own {W W' : World} {row : Option Nat} {B : Nat} {d : D} (h : Box2 W B d) (hg : W.grownBy W' row) (hr : ∀ r, row = some r → ∃ o : Obj, W.heap[r]? = some o ∧ o.isCells = false) : Box2 W' B d :=
  (hg.block B (Array.getElem?_eq_some_iff.1 h).1 (fun e => by obtain ⟨o, ho, hc⟩ := hr B e.symm; rw [show W.heap[B]? = _ from h] at ho; cases ho; cases hc)).trans h
theorem Box2.cell {W : World} {B : Nat} {d : D} (h : Box2 W B d) : W.cell? ⟨B, 0, none⟩ = some (.string d.name) ∧ W.cell? ⟨B, 1, none⟩ = some (.int .i64 d.val) := by
  refine ⟨?_, ?_⟩ <;> simp [World.cell?, show W.heap[B]? = _ from h]

end Go.Proofs.YtiebdhbioccogaaGreatDoor
