import Derived.Test.YtboehlffbibgmaaGreatDoorBaseB
import Derived.Test.YtboehlffbibgmaaGreatDoorBaseP
import Derived.Test.YtboehlffbibgmaaGreatDoorUniq
namespace Go.Proofs.YtboehlffbibgmaaGreatDoor
open Go.RowKit
set_option linter.unusedVariables false
set_option maxRecDepth 100000

/-! ### what the laws ask of lists -/
def hT (s t : ByteArray) : Bool := t.toList == s.toList
theorem hT_iff {s t : ByteArray} : hT s t = true ↔ t = s := by
  unfold hT; rw [beq_iff_eq]; exact ⟨nm_inj, fun h => by rw [h]⟩




end Go.Proofs.YtboehlffbibgmaaGreatDoor
