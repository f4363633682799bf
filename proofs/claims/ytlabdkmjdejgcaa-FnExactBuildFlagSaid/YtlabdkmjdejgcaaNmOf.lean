import Derived.Test.YtlabdkmjdejgcaaMembers
namespace Go.Proofs.Ytlabdkmjdejgcaa
open Go.RowKit Go.Maps
set_option linter.unusedVariables false
set_option maxRecDepth 100000

end Go.Proofs.Ytlabdkmjdejgcaa
