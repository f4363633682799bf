import Derived.Test.YtboehlffbibgmaaGreatDoorBaseB
namespace Go.Proofs.YtboehlffbibgmaaGreatDoor
open Go.RowKit Go.Maps
set_option linter.unusedVariables false
set_option maxRecDepth 100000

/-! ### IsUnique -/
def mUniq (ds : List D) : Bool := vEnum ds && decide ((mems ds).length = ds.length)

end Go.Proofs.YtboehlffbibgmaaGreatDoor
