import Derived.Test.YtiebdhbioccogaaGreatDoorBaseC
namespace Go.Proofs.YtiebdhbioccogaaGreatDoor
open Go.RowKit
set_option linter.unusedVariables false
set_option maxRecDepth 100000

/-! ### appends beside another row -/
/-- Where an append leaves its row. -/
def Where (W : World) (v v' : Value) : Prop := ∀ q, q < W.heap.size → v.ownBlock ≠ some q → v'.ownBlock ≠ some q
/-- Two values lie in two blocks. -/
def Apart (v u : Value) : Prop := v.ownBlock = none ∨ v.ownBlock ≠ u.ownBlock
theorem Apart.symm {v u : Value} (h : Apart v u) : Apart u v := by
  rcases h with h | h
  · cases e : u.ownBlock with
    | none => exact .inl e
    | some k => exact .inr (by rw [h, e]; exact fun h => by cases h)
  · exact .inr (Ne.symm h)
/-- After an append beside it. -/
theorem Apart.app {W : World} {v v' u : Value} (h : Apart v u) (hw : Where W v v') (hu : ∀ q, u.ownBlock = some q → q < W.heap.size) : Apart v' u := by
  cases e : u.ownBlock with
  | none =>
    cases e2 : v'.ownBlock with
    | none => exact .inl e2
    | some k => exact .inr (by rw [e, e2]; exact fun h => by cases h)
  | some q =>
    refine .inr ?_
    rw [e]
    refine hw q (hu q e) ?_
    rcases h with h | h
    · rw [h]; exact fun h => by cases h
    · rw [← e]; exact h
theorem own_kept_app {W w' : World} {base sz n : Nat} {e : TypeId} {v u : Value} {xs : List Value} (h : W.ownsRow base e sz u n xs) (hg : W.grownBy w' v.ownBlock) (ha : Apart v u) : w'.ownsRow base e sz u n xs :=
  h.kept hg ha.symm
end Go.Proofs.YtiebdhbioccogaaGreatDoor
