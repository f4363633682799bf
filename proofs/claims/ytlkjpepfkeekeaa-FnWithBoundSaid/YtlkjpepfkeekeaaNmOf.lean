import Derived.Test.YtlkjpepfkeekeaaMembers
namespace Go.Proofs.Ytlkjpepfkeekeaa
open Go.RowKit Go.Maps
set_option linter.unusedVariables false
set_option maxRecDepth 100000

end Go.Proofs.Ytlkjpepfkeekeaa
