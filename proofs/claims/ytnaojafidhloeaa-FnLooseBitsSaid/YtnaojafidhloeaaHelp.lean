import Derived.Test.YtnaojafidhloeaaDefs
import Derived.StillTailTactics
import Derived.Deep.RegionHeld3
import Derived.WalkSmall
namespace Go.Proofs.Ytnaojafidhloeaa
open Go.RowKit
set_option linter.unusedVariables false
set_option maxRecDepth 100000

/-! ### the model's ValidEnum -/

end Go.Proofs.Ytnaojafidhloeaa
