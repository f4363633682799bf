import Derived.RangeFuncBox
import Derived.RangeFuncWrites
import Derived.Shelf.Abstract
import Derived.WalkKit
import Derived.OwnWalkIn
import Derived.TacticsInMore
import Derived.LoopNIn
import Derived.LoopIn
import Derived.Maps.AppendAt
import Derived.Test.YtpmanbmhbfnefaaRoundW
import Derived.Test.YtpmanbmhbfnefaaFitP
import Derived.Test.YtpmanbmhbfnefaaAlgJ
namespace Go.Proofs.Ytpmanbmhbfnefaa
open Go.RowKit Go.Shelf
set_option linter.unusedVariables false
set_option linter.unusedSimpArgs false
set_option maxRecDepth 100000
attribute [local go_sem] Oper.semAt_some

/-! ### the definitions that fit, one after the other -/
theorem grownN {w w' : World} (h : Below w.heap.size w w') : w.grownBy w' none := ⟨h.os, h.tape, h.output, h.size, fun k hk _ => h.block k hk⟩
def encDv (d : D) : Array Value := #[.agg #[.string d.name, .int .i64 d.val]]
/-- What lay below n₀ is as it was, and so is every block of definitions. -/
def KpD (n₀ : Nat) (W W' : World) : Prop := Below n₀ W W' ∧ ∀ (g : Nat) (cs : Array Value) (r : Nat × Nat), W.heap[g]? = some (Obj.cells cs 48 r) → W'.heap[g]? = some (Obj.cells cs 48 r)
theorem KpD.refl (n₀ : Nat) (W : World) : KpD n₀ W W := ⟨Below.refl _ _, fun _ _ _ h => h⟩
theorem KpD.trans {n₀ : Nat} {A B C : World} (h : KpD n₀ A B) (k : KpD n₀ B C) : KpD n₀ A C := ⟨h.1.trans k.1, fun g cs r hg => k.2 g cs r (h.2 g cs r hg)⟩
theorem KpD.below {n₀ : Nat} {W W' : World} (h : Below W.heap.size W W') (hn : n₀ ≤ W.heap.size) : KpD n₀ W W' :=
  ⟨h.mono hn, fun g cs r hg => (h.block g (Array.getElem?_eq_some_iff.1 hg).1).trans hg⟩
theorem KpD.own {n₀ base n : Nat} {v : Value} {xs : List Value} {W W' : World} (hk : KpD n₀ W W') (h : W.ownsRow base 48 2 v n xs) : W'.ownsRow base 48 2 v n xs := by
  refine ⟨h.1, ?_⟩
  rcases h.2 with hn | ⟨g, cap, cur, rfl, h1, hg, rest⟩
  · exact .inl hn
  · exact .inr ⟨g, cap, cur, rfl, h1, hk.2 g _ _ hg, rest⟩

end Go.Proofs.Ytpmanbmhbfnefaa
