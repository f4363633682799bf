import Derived.Test.YtiebdhbioccogaaGreatDoorOpen
import Derived.Test.YtiebdhbioccogaaGreatDoorBaseA
import Derived.Test.YtiebdhbioccogaaGreatDoorBaseC
import Derived.Test.YtiebdhbioccogaaGreatDoorBaseD
namespace Go.Proofs.YtiebdhbioccogaaGreatDoor
open Go.ChangeShapes Go.WideShapes Go.ChangeAt Go.RowKit Go.Deep Go.Joins
open Go.ChangeMaps (open_string shut_string)
set_option linter.unusedVariables false
set_option maxRecDepth 100000

/-! ### classes of flags in the exact laws -/
section
variable {H : Type} {enc : TypeId × Value → H} {W : World} {base : Nat} {spare : Nat → Bool} {held : Bool}
end



end Go.Proofs.YtiebdhbioccogaaGreatDoor
