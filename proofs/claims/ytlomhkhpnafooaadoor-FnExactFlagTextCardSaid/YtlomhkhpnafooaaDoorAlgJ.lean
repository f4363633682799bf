import Derived.Test.YtlomhkhpnafooaaDoorAlgI
import Derived.Test.YtlomhkhpnafooaaDoorAppW
import Derived.Test.YtlomhkhpnafooaaDoorBaseC
namespace Go.Proofs.YtlomhkhpnafooaaDoor
open Go.RowKit Go.Maps
set_option linter.unusedVariables false
set_option maxRecDepth 100000

end Go.Proofs.YtlomhkhpnafooaaDoor
