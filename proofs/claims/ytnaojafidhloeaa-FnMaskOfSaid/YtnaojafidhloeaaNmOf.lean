import Derived.Test.YtnaojafidhloeaaMembers
namespace Go.Proofs.Ytnaojafidhloeaa
open Go.RowKit Go.Maps
set_option linter.unusedVariables false
set_option maxRecDepth 100000

end Go.Proofs.Ytnaojafidhloeaa
