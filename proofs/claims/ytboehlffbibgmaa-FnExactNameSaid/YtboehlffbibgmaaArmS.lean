import Derived.Test.YtboehlffbibgmaaArmP
import Derived.Test.YtboehlffbibgmaaBaseD
import Derived.Test.YtboehlffbibgmaaCel
import Derived.BigQuiet
namespace Go.Proofs.Ytboehlffbibgmaa
open Go.RowKit Go.Maps
set_option linter.unusedVariables false
set_option maxRecDepth 100000

/-! ### the model's functions on bits, at any numbers -/
end Go.Proofs.Ytboehlffbibgmaa
