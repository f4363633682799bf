import Derived.Test.YtboehlffbibgmaaDoorBaseC
import Derived.Test.YtboehlffbibgmaaDoorBaseB
namespace Go.Proofs.YtboehlffbibgmaaDoor
open Go.RowKit
set_option linter.unusedVariables false
set_option maxRecDepth 100000

/-- ValueOf a name that is there. -/
theorem implValue_at (ds : List D) (s : ByteArray) (A : Option Addr) (c n : Nat) (w : World) (hr : SD w w.heap.size A n c ds) (hv : vEnum ds = true) {v : Int} (h : ∃ k, ∃ hk : k < ds.length, fidx (isNm s) ds = (k : Int) ∧ ds[k].val = v) :
    Calls Tryd.prog 24 #[.agg #[.slice A n c], .string s] w fun e w' => e = .returned (.tuple #[.int .i64 v, .bool true]) ∧ Below w.heap.size w w' := by
  obtain ⟨k, hk, hx, rfl⟩ := h
  exact implValueOf_yes ds s A c n w hr hv k hk hx
/-- .. one that is not there. -/
theorem implValue_none (ds : List D) (s : ByteArray) (A : Option Addr) (c n : Nat) (w : World) (hr : SD w w.heap.size A n c ds) (hx : fidx (isNm s) ds < 0) :
    Calls Tryd.prog 24 #[.agg #[.slice A n c], .string s] w fun e w' => e = .returned (.tuple #[.int .i64 0, .bool false]) ∧ Below w.heap.size w w' :=
  implValueOf_no ds s A c n w hr rfl rfl (.inr hx)


end Go.Proofs.YtboehlffbibgmaaDoor
