import Derived.Test.YtnaojafidhloeaaBld
import Derived.Test.YtnaojafidhloeaaZap
namespace Go.Proofs.Ytnaojafidhloeaa
open Go.RowKit Go.Maps
set_option linter.unusedVariables false
set_option maxRecDepth 100000

/-- What BuildEnum answers. -/
def BldP (ts : List It) (w : World) (e : Ending) (w' : World) : Prop :=
  ∃ A c, e = .returned (.tuple #[.agg #[.slice A (mBuild ts).length c], .bool (built ts)]) ∧ w'.ownsRow w.heap.size 30 2 (.slice A (mBuild ts).length c) (mBuild ts).length (flat (mBuild ts)) ∧ Below w.heap.size w w'
theorem bldP_no {ts : List It} {w : World} {w' : World} (h : built ts = false) (hb : Below w.heap.size w w') : BldP ts w (.returned (.tuple #[.agg #[.slice none 0 0], .bool false])) w' := by
  have e : mBuild ts = [] := by unfold mBuild; rw [h]; rfl
  unfold BldP
  rw [e, h]
  exact ⟨none, 0, rfl, World.ownsRow_nil _ _ _ _, hb⟩
theorem bldP_yes {ts : List It} {w w' : World} {A : Option Addr} {c : Nat} (h : built ts = true) (ho : w'.ownsRow w.heap.size 30 2 (.slice A ts.length c) ts.length (flat (bld ts ts.length))) (hb : Below w.heap.size w w') : BldP ts w (.returned (.tuple #[.agg #[.slice A ts.length c], .bool true])) w' := by
  have e : mBuild ts = bld ts ts.length := by unfold mBuild; rw [h]; rfl
  unfold BldP
  rw [e, h, bld_len ts _ (Nat.le_refl _)]
  exact ⟨A, c, rfl, ho, hb⟩
theorem frozen_set (w : World) (p q : Addr) (v : Value) : (w.setCell p v).frozen? q = w.frozen? q := by simp [go_sem]
theorem flat_bld (ts : List It) (k : Nat) (h : k < ts.length) : flat (bld ts (k + 1)) = flat (bld ts k) ++ [.string ts[k].name, .int .i64 (bldD (bld ts k) ts[k]).val] := by
  rw [bld_succ ts k h]; simp [flat, encD, bldD]

end Go.Proofs.Ytnaojafidhloeaa
