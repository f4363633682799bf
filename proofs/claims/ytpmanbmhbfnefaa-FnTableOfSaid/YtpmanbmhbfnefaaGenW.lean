import Derived.Test.YtpmanbmhbfnefaaGenV
namespace Go.Proofs.Ytpmanbmhbfnefaa
open Go.RowKit
set_option linter.unusedVariables false
set_option maxRecDepth 100000

/-- What valueIn makes: the class in a row of its own, and a number. -/
def GenFN (R B : Nat) (A : Option Addr) (cb : Nat) (zs : List Int) (p : Nat) (w : World) (e : Ending) (w' : World) : Prop :=
  ∃ (A' : Option Addr) (c : Nat) (ds : List D) (b x : Int), e = .returned (.tuple #[.agg #[.slice A' ds.length c, .int .i64 b], .int .i64 x]) ∧ ds.length ≤ 13 ∧ (∀ d ∈ ds, d.small) ∧ (-1 ≤ b ∧ b ≤ 4) ∧ (-1 ≤ x ∧ x ≤ 4096) ∧
    w'.ownsRow w.heap.size 48 2 (.slice A' ds.length c) ds.length (flat ds) ∧ w.grownBy w' (some R)
end Go.Proofs.Ytpmanbmhbfnefaa
