import Derived.Test.YtpmanbmhbfnefaaGenV
import Derived.Test.YtpmanbmhbfnefaaArmS
namespace Go.Proofs.Ytpmanbmhbfnefaa
open Go.RowKit
set_option linter.unusedVariables false
set_option linter.unusedSimpArgs false
set_option maxRecDepth 100000

/-- A drawn arm, and the reader behind it. -/
def DrawnA (q R B : Nat) (A : Option Addr) (cb : Nat) (zs : List Int) (p : Nat) (w : World) (e : Ending) (w' : World) : Prop :=
  ∃ (x y : Int) (p' : Nat), e = .returned (.agg #[.int .i64 x, .int .i64 y]) ∧ (-60000 ≤ x ∧ x ≤ 60000) ∧ (-60000 ≤ y ∧ y ≤ 60000) ∧ p' ≤ p + q ∧ w.grownBy w' (some R) ∧ Rdr w' R B A cb zs p'
/-- What armIn makes: the class in a row of its own, an arm, and the reader behind them. -/
def GenFA (q R B : Nat) (A : Option Addr) (cb : Nat) (zs : List Int) (p : Nat) (w : World) (e : Ending) (w' : World) : Prop :=
  ∃ (A' : Option Addr) (c : Nat) (ds : List D) (b x y : Int) (p' : Nat), e = .returned (.tuple #[.agg #[.slice A' ds.length c, .int .i64 b], .agg #[.int .i64 x, .int .i64 y]]) ∧ ds.length ≤ 13 ∧ (∀ d ∈ ds, d.small) ∧ (-1 ≤ b ∧ b ≤ 4) ∧ (-60000 ≤ x ∧ x ≤ 60000) ∧ (-60000 ≤ y ∧ y ≤ 60000) ∧
    w'.ownsRow w.heap.size 48 2 (.slice A' ds.length c) ds.length (flat ds) ∧ p' ≤ p + q ∧ w.grownBy w' (some R) ∧ Rdr w' R B A cb zs p'
end Go.Proofs.Ytpmanbmhbfnefaa
