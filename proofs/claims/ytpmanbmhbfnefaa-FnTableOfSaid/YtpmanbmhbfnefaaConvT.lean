import Derived.Test.YtpmanbmhbfnefaaConvI
namespace Go.Proofs.Ytpmanbmhbfnefaa
open Go.RowKit Go.Maps
set_option linter.unusedVariables false
set_option maxRecDepth 100000


/-- A class of flags in new memory. -/
def FlagE (ms : List D) (rb : Int) (w : World) (e : Ending) (w' : World) : Prop :=
  ∃ A c, e = .returned (.agg #[.slice A ms.length c, .int .i64 rb]) ∧ w'.ownsRow w.heap.size 48 2 (.slice A ms.length c) ms.length (flat ms) ∧ Below w.heap.size w w'

end Go.Proofs.Ytpmanbmhbfnefaa
