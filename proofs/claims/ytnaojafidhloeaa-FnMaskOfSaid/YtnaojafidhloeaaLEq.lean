import Derived.Test.YtnaojafidhloeaaEdit
import Derived.Test.YtnaojafidhloeaaChg
import Derived.Test.YtnaojafidhloeaaLook
namespace Go.Proofs.Ytnaojafidhloeaa
open Go.RowKit
set_option linter.unusedVariables false
set_option maxRecDepth 100000



end Go.Proofs.Ytnaojafidhloeaa
