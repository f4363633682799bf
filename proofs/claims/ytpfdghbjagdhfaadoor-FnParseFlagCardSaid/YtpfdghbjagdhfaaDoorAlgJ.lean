import Derived.Test.YtpfdghbjagdhfaaDoorAlgI
import Derived.Test.YtpfdghbjagdhfaaDoorAppW
import Derived.Test.YtpfdghbjagdhfaaDoorBaseC
namespace Go.Proofs.YtpfdghbjagdhfaaDoor
open Go.RowKit Go.Maps
set_option linter.unusedVariables false
set_option maxRecDepth 100000

end Go.Proofs.YtpfdghbjagdhfaaDoor
