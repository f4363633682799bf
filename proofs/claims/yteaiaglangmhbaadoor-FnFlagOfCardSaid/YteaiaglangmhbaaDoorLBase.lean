import Derived.Test.YteaiaglangmhbaaDoorBaseG
import Derived.Test.YteaiaglangmhbaaDoorLHelp
import Derived.Test.YteaiaglangmhbaaDoorBaseP
import Derived.Test.YteaiaglangmhbaaDoorOpenC
namespace Go.Proofs.YteaiaglangmhbaaDoor
open Go.RowKit
set_option linter.unusedVariables false
set_option maxRecDepth 100000

/-! ### contracts with the answer given -/
theorem implMembersOf_v (ds : List D) (A : Option Addr) (c n : Nat) (w : World) (hr : SD w w.heap.size A n c ds) {ms : List ByteArray} (hv : mMembers ds = ms) :
    Calls Tryd.prog 19 #[.agg #[.slice A n c]] w (StrsP ms w) := hv ▸ implMembersOf_any ds A c n w hr
theorem mMembers_yes {ds : List D} (hv : vEnum ds = true) : mMembers ds = (mems ds).map (·.name) := by unfold mMembers; rw [if_pos hv]
theorem implRankOf_w (ds : List D) (s : ByteArray) (A : Option Addr) (c n : Nat) (w : World) (hr : SD w w.heap.size A n c ds) (hv : vEnum ds = true) (k : Nat) (hk : k < ds.length) (hx : fidx (isNm s) ds = k) {r : Int} (h : fidx (isVal ds[k].val) (mems ds) = r) :
    Calls Tryd.prog 83 #[.agg #[.slice A n c], .string s] w fun e w' => e = .returned (.int .i64 r) ∧ Below w.heap.size w w' := h ▸ implRankOf_yes ds s A c n w hr hv k hk hx
end Go.Proofs.YteaiaglangmhbaaDoor
