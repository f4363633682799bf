import Derived.Test.YteaiaglangmhbaaDoorAlgI
import Derived.Test.YteaiaglangmhbaaDoorAppW
import Derived.Test.YteaiaglangmhbaaDoorBaseC
namespace Go.Proofs.YteaiaglangmhbaaDoor
open Go.RowKit Go.Maps
set_option linter.unusedVariables false
set_option maxRecDepth 100000

end Go.Proofs.YteaiaglangmhbaaDoor
