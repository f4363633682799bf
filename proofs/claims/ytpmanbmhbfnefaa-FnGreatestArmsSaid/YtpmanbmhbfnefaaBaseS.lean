import Derived.Test.YtpmanbmhbfnefaaFitP
import Derived.Test.YtpmanbmhbfnefaaAlgS
import Derived.Test.YtpmanbmhbfnefaaFewP
import Derived.Test.YtpmanbmhbfnefaaBaseC
namespace Go.Proofs.Ytpmanbmhbfnefaa
open Go.RowKit
set_option linter.unusedVariables false
set_option linter.unusedSimpArgs false
set_option maxRecDepth 100000

end Go.Proofs.Ytpmanbmhbfnefaa

namespace Go.Proofs.Ytpmanbmhbfnefaa
open Go.RowKit
set_option linter.unusedVariables false
set_option linter.unusedSimpArgs false
set_option maxRecDepth 100000

/-- Definitions in new memory, or none. -/
def FewR (o : Option (List D)) (w : World) (e : Ending) (w' : World) : Prop :=
  ∃ A c, e = .returned (.tuple #[.slice A (o.getD []).length c, .bool o.isSome]) ∧ w'.ownsRow w.heap.size 48 2 (.slice A (o.getD []).length c) (o.getD []).length (flat (o.getD [])) ∧ Below w.heap.size w w'

end Go.Proofs.Ytpmanbmhbfnefaa

namespace Go.Proofs.Ytpmanbmhbfnefaa
open Go.RowKit
set_option linter.unusedVariables false
set_option linter.unusedSimpArgs false
set_option maxRecDepth 100000

theorem fewUp_mono {l : List D} {w : Nat} {m : List D} : ∀ {k j : Nat}, fewUp l w k = some m → k ≤ j → fewUp l w j = some m
  | k, 0, h, hj => by
    have : k = 0 := by omega
    subst this
    exact h
  | k, j + 1, h, hj => by
    by_cases hk : k = j + 1
    · subst hk; exact h
    · have := fewUp_mono (j := j) h (by omega)
      unfold fewUp; rw [this]
theorem fewUp_hit {l m : List D} {k : Nat} (h : fewUp l (mMask l) (k + 1) = some m) (hk : k ≤ l.length) : m = mShortL l := by
  have := fewUp_mono h (show k + 1 ≤ l.length + 1 by omega)
  rw [fewUp_all] at this
  exact (Option.some.inj this).symm
end Go.Proofs.Ytpmanbmhbfnefaa

