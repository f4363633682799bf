import Derived.Test.YtiklgghbkkmnaaaDefs
import Derived.StillTailTactics
import Derived.Deep.RegionHeld3
import Derived.WalkSmall
namespace Go.Proofs.Ytiklgghbkkmnaaa
open Go.RowKit
set_option linter.unusedVariables false
set_option maxRecDepth 100000

/-! ### the model's ValidEnum -/

set_option maxHeartbeats 400000 in
theorem specVE1 (ds : List D) (A : Option Addr) (c n : Nat) (w : World) (hr : SD w w.heap.size A n c ds) :
    Calls Try.prog 63 #[.agg #[.slice A n c]] w fun e w' => e = .returned (.bool (vEnum ds)) ∧ Below w.heap.size w w' := by
  have HR := Lib.hid hr
  clear hr
  go_enter Try.func63, Try.ntmps63
  go_wp2_with (go_at_call 101; refine (validDefs_any ds _ _ _ _ _ _ ((HR.out.alloc (Nat.le_refl _) _).call (by simp))).mono ?_; rintro e w' ⟨rfl, n1, rfl⟩)
  go_ret
  exact ⟨rfl, below_drewN ((Below.refl _ _).alloc (Nat.le_refl _) _) _⟩

end Go.Proofs.Ytiklgghbkkmnaaa
