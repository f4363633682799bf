import Derived.Test.YtpkgfjjdncfhmaaMembers
namespace Go.Proofs.Ytpkgfjjdncfhmaa
open Go.RowKit Go.Maps
set_option linter.unusedVariables false
set_option maxRecDepth 100000

end Go.Proofs.Ytpkgfjjdncfhmaa
