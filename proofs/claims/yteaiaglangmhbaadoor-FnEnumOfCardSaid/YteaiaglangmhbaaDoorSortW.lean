import Derived.Test.YteaiaglangmhbaaDoorSortI
import Derived.Test.YteaiaglangmhbaaDoorBaseC
import Derived.Test.YteaiaglangmhbaaDoorEdit2
import Derived.Test.YteaiaglangmhbaaDoorBaseB
namespace Go.Proofs.YteaiaglangmhbaaDoor
open Go.RowKit
set_option linter.unusedVariables false
set_option maxRecDepth 100000

end Go.Proofs.YteaiaglangmhbaaDoor
