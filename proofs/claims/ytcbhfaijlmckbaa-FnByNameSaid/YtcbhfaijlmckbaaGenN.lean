import Derived.Test.YtcbhfaijlmckbaaGenS
namespace Go.Proofs.Ytcbhfaijlmckbaa
open Go.RowKit
set_option linter.unusedVariables false
set_option maxRecDepth 100000

/-- A drawn enumeration and a name. -/
def NamP (R B : Nat) (A : Option Addr) (cb : Nat) (zs : List Int) (p : Nat) (w : World) (e : Ending) (w' : World) : Prop :=
  ∃ (A' : Option Addr) (c : Nat) (ds : List D) (s : ByteArray) (p' : Nat), e = .returned (.tuple #[.agg #[.slice A' ds.length c], .string s]) ∧ s.size ≤ 100 ∧ ds.length ≤ 25 ∧ (∀ d ∈ ds, d.small) ∧
    w'.ownsRow w.heap.size 60 2 (.slice A' ds.length c) ds.length (flat ds) ∧ p' ≤ p + 120 ∧ w.grownBy w' (some R) ∧ Rdr w' R B A cb zs p'

end Go.Proofs.Ytcbhfaijlmckbaa
