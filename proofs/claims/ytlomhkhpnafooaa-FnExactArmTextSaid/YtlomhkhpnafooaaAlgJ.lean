import Derived.Test.YtlomhkhpnafooaaAlgI
import Derived.Test.YtlomhkhpnafooaaAppW
import Derived.Test.YtlomhkhpnafooaaBaseC
namespace Go.Proofs.Ytlomhkhpnafooaa
open Go.RowKit Go.Maps
set_option linter.unusedVariables false
set_option maxRecDepth 100000

end Go.Proofs.Ytlomhkhpnafooaa
