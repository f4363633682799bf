import Derived.Test.YtjccnahebafepaaGenD
import Derived.Test.YtjccnahebafepaaLHelp
import Derived.Test.YtjccnahebafepaaLFun
import Derived.Test.YtjccnahebafepaaOpenC
namespace Go.Proofs.Ytjccnahebafepaa
open Go.RowKit
set_option linter.unusedVariables false

/-! ### contracts with the answer given -/
theorem implIsUnique_v (ds : List D) (A : Option Addr) (c n : Nat) (w : World) (hr : SD w w.heap.size A n c ds) {v : Bool} (hv : mUniq ds = v) :
    Calls Try.prog 40 #[.agg #[.slice A n c]] w fun e w' => e = .returned (.bool v) ∧ Below w.heap.size w w' := hv ▸ implIsUnique_any ds A c n w hr
theorem specIsUnique_v (ds : List D) (A : Option Addr) (c n : Nat) (w : World) (hr : SD w w.heap.size A n c ds) {v : Bool} (hv : mUniq ds = v) :
    Calls Try.prog 41 #[.agg #[.slice A n c]] w fun e w' => e = .returned (.bool v) ∧ Below w.heap.size w w' := hv ▸ specIsUnique_any ds A c n w hr
theorem specVEw_v (ds : List D) (A : Option Addr) (c n : Nat) (w : World) (hr : SD w w.heap.size A n c ds) {v : Bool} (hv : vEnum ds = v) :
    Calls Try.prog 20 #[.agg #[.slice A n c]] w fun e w' => e = .returned (.bool v) ∧ Below w.heap.size w w' := hv ▸ specVE ds A c n w hr
theorem implMembersOf_v (ds : List D) (A : Option Addr) (c n : Nat) (w : World) (hr : SD w w.heap.size A n c ds) {ms : List ByteArray} (hv : mMembers ds = ms) :
    Calls Try.prog 21 #[.agg #[.slice A n c]] w (StrsP ms w) := hv ▸ implMembersOf_any ds A c n w hr
theorem specMembersOf_v (ds : List D) (A : Option Addr) (c n : Nat) (w : World) (hr : SD w w.heap.size A n c ds) {ms : List ByteArray} (hv : mMembers ds = ms) :
    Calls Try.prog 35 #[.agg #[.slice A n c]] w (StrsP ms w) := hv ▸ specMembersOf_any ds A c n w hr
theorem implOther_v (ds : List D) (s : ByteArray) (A : Option Addr) (c n : Nat) (w : World) (hr : SD w w.heap.size A n c ds) {ms : List ByteArray} (hv : mOthers ds s = ms) :
    Calls Try.prog 36 #[.agg #[.slice A n c], .string s] w (StrsP ms w) := hv ▸ implOtherNames_any ds s A c n w hr
theorem specOther_v (ds : List D) (s : ByteArray) (A : Option Addr) (c n : Nat) (w : World) (hr : SD w w.heap.size A n c ds) {ms : List ByteArray} (hv : mOthers ds s = ms) :
    Calls Try.prog 38 #[.agg #[.slice A n c], .string s] w (StrsP ms w) := hv ▸ specOtherNames_any ds s A c n w hr
theorem mMembers_yes {ds : List D} (hv : vEnum ds = true) : mMembers ds = (mems ds).map (·.name) := by unfold mMembers; rw [if_pos hv]
theorem implRankOf_w (ds : List D) (s : ByteArray) (A : Option Addr) (c n : Nat) (w : World) (hr : SD w w.heap.size A n c ds) (hv : vEnum ds = true) (k : Nat) (hk : k < ds.length) (hx : fidx (isNm s) ds = k) {r : Int} (h : fidx (isVal ds[k].val) (mems ds) = r) :
    Calls Try.prog 48 #[.agg #[.slice A n c], .string s] w fun e w' => e = .returned (.int .i64 r) ∧ Below w.heap.size w w' := h ▸ implRankOf_yes ds s A c n w hr hv k hk hx
theorem specRankOf_w (ds : List D) (s : ByteArray) (A : Option Addr) (c n : Nat) (w : World) (hr : SD w w.heap.size A n c ds) (hv : vEnum ds = true) (k : Nat) (hk : k < ds.length) (hx : fidx (isNm s) ds = k) {r : Int} (h : fidx (isVal ds[k].val) (mems ds) = r) :
    Calls Try.prog 49 #[.agg #[.slice A n c], .string s] w fun e w' => e = .returned (.int .i64 r) ∧ Below w.heap.size w w' := h ▸ specRankOf_yes ds s A c n w hr hv k hk hx
end Go.Proofs.Ytjccnahebafepaa
