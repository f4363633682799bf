import Derived.Test.YteaiaglangmhbaaDoorBaseE
namespace Go.Proofs.YteaiaglangmhbaaDoor
open Go.RowKit Go.Maps
set_option linter.unusedVariables false
set_option maxRecDepth 100000

end Go.Proofs.YteaiaglangmhbaaDoor
