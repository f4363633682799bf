import Derived.Test.YtbkfagncoekbkaaFlagT
namespace Go.Proofs.Ytbkfagncoekbkaa
open Go.RowKit
set_option linter.unusedVariables false
theorem specVF_w (ds : List D) (b : Int) (A : Option Addr) (n c : Nat) (w : World) (hr : SD w w.heap.size A n c ds) {v : Bool} (hv : vFlag ds b = v) :
    Calls Try.prog 17 #[.agg #[.slice A n c, .int .i64 b]] w fun e w' => e = .returned (.bool v) ∧ Below w.heap.size w w' := by
  rw [← hv]; exact specVF ds b A n c w hr
theorem specIsV_w (ds : List D) (b n : Int) (A : Option Addr) (m c : Nat) (w : World) (hr : SD w w.heap.size A m c ds) {v : Bool} (hv : mIsV ds b n = v) :
    Calls Try.prog 42 #[.agg #[.slice A m c, .int .i64 b], .int .i64 n] w fun e w' => e = .returned (.bool v) ∧ Below w.heap.size w w' := by
  rw [← hv]; exact specIsV_any ds b n A m c w hr
end Go.Proofs.Ytbkfagncoekbkaa
