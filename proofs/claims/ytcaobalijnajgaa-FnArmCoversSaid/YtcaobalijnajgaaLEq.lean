import Derived.Test.YtcaobalijnajgaaBaseC
import Derived.Test.YtcaobalijnajgaaBaseB
namespace Go.Proofs.Ytcaobalijnajgaa
open Go.RowKit
set_option linter.unusedVariables false
set_option maxRecDepth 100000



end Go.Proofs.Ytcaobalijnajgaa
