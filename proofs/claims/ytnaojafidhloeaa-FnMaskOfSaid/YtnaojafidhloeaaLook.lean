import Derived.Test.YtnaojafidhloeaaMaps
namespace Go.Proofs.Ytnaojafidhloeaa
open Go.RowKit Go.Maps
set_option linter.unusedVariables false
set_option maxRecDepth 100000

theorem implVE_v (ds : List D) (A : Option Addr) (c n : Nat) (w : World) (hr : SD w w.heap.size A n c ds) {v : Bool} (hv : vEnum ds = v) :
    Calls Try.prog 100 #[.agg #[.slice A n c]] w fun e w' => e = .returned (.bool v) ∧ Below w.heap.size w w' := hv ▸ implVE ds A c n w hr

/-! ### the program's ValueOf -/
def ValP (ds : List D) (p : D → Bool) (w : World) (e : Ending) (w' : World) : Prop :=
  ((noTo p ds ds.length ∧ e = .returned (.tuple #[.int .i64 0, .bool false])) ∨ ∃ k : Nat, ∃ h : k < ds.length, noTo p ds k ∧ p ds[k] = true ∧ e = .returned (.tuple #[.int .i64 ds[k].val, .bool true])) ∧ Below w.heap.size w w'

end Go.Proofs.Ytnaojafidhloeaa
