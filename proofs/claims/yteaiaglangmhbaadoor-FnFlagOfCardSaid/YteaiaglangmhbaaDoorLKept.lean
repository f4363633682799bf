import Derived.Test.YteaiaglangmhbaaDoorFlagU
import Derived.Test.YteaiaglangmhbaaDoorGenG
namespace Go.Proofs.YteaiaglangmhbaaDoor
open Go.RowKit
set_option linter.unusedVariables false
set_option maxRecDepth 100000

/-- The same class, with the bound that keeps. -/
def KeptP (ds : List D) (w : World) (e : Ending) (w' : World) : Prop :=
  ∃ A c, e = .returned (.agg #[.slice A ds.length c, .int .i64 3]) ∧ w'.ownsRow w.heap.size 53 2 (.slice A ds.length c) ds.length (flat ds) ∧ Below w.heap.size w w'
theorem vFlag_3 {ds : List D} {b : Int} (hv : vFlag ds b = true) : vFlag ds 3 = true := by
  unfold vFlag; rw [vFlag_defs hv]; rfl
end Go.Proofs.YteaiaglangmhbaaDoor
