import Derived.Test.YtpmanbmhbfnefaaArmV
import Derived.Test.YtpmanbmhbfnefaaBaseR
namespace Go.Proofs.Ytpmanbmhbfnefaa
open Go.RowKit Go.Maps
set_option linter.unusedVariables false
set_option maxRecDepth 100000

end Go.Proofs.Ytpmanbmhbfnefaa
