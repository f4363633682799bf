import Derived.Test.YtpmanbmhbfnefaaBaseB
import Derived.Test.YtpmanbmhbfnefaaItemsC
namespace Go.Proofs.Ytpmanbmhbfnefaa
open Go.RowKit
set_option linter.unusedVariables false
set_option maxRecDepth 100000

/-- Rows of two types lie in two blocks. -/
theorem own_ne_type {w : World} {base base' : Nat} {e e' : TypeId} {sz sz' : Nat} {v v' : Value} {n n' : Nat} {xs xs' : List Value} (h : w.ownsRow base e sz v n xs) (h' : w.ownsRow base' e' sz' v' n' xs') (hne : e ≠ e') : v.ownBlock = none ∨ v.ownBlock ≠ v'.ownBlock := by
  rcases h.2 with ⟨rfl, _⟩ | ⟨g, cap, cur, rfl, _, hg, _⟩
  · exact .inl rfl
  · refine .inr (fun e1 => ?_)
    rcases h'.2 with ⟨rfl, _⟩ | ⟨g', cap', cur', rfl, _, hg', _⟩
    · simp [Value.ownBlock] at e1
    · simp [Value.ownBlock] at e1
      subst e1
      rw [hg] at hg'
      injection hg' with hg'
      injection hg' with _ q2
      exact hne q2
theorem flatT_set (ts : List It) (k : Nat) (hk : k < ts.length) (t : It) : (((flatT ts).set (k * 3) (.string t.name)).set (k * 3 + 1) (.bool t.auto)).set (k * 3 + 2) (.int .i64 t.val) = flatT (ts.set k t) := by
  induction ts generalizing k with
  | nil => simp at hk
  | cons d r ih =>
    cases k with
    | zero => simp [flatT_cons]
    | succ k =>
      have := ih k (by simpa using hk)
      rw [show (k + 1) * 3 = k * 3 + 1 + 1 + 1 from by omega, show k * 3 + 1 + 1 + 1 + 1 = (k * 3 + 1) + 1 + 1 + 1 from rfl, show k * 3 + 1 + 1 + 1 + 2 = (k * 3 + 2) + 1 + 1 + 1 from rfl]
      simp only [flatT_cons, List.set_cons_succ]
      rw [this]
end Go.Proofs.Ytpmanbmhbfnefaa
