import Derived.Test.YtiklgghbkkmnaaaGenD
import Derived.Test.YtiklgghbkkmnaaaLHelp
import Derived.Test.YtiklgghbkkmnaaaLFun
import Derived.Test.YtiklgghbkkmnaaaOpenC
namespace Go.Proofs.Ytiklgghbkkmnaaa
open Go.RowKit
set_option linter.unusedVariables false
set_option maxRecDepth 100000

/-! ### contracts with the answer given -/
theorem implMembersOf_v (ds : List D) (A : Option Addr) (c n : Nat) (w : World) (hr : SD w w.heap.size A n c ds) {ms : List ByteArray} (hv : mMembers ds = ms) :
    Calls Try.prog 50 #[.agg #[.slice A n c]] w (StrsP ms w) := hv ▸ implMembersOf_any ds A c n w hr
theorem mMembers_yes {ds : List D} (hv : vEnum ds = true) : mMembers ds = (mems ds).map (·.name) := by unfold mMembers; rw [if_pos hv]
end Go.Proofs.Ytiklgghbkkmnaaa
