import Derived.Test.YtpfdghbjagdhfaaDoorGenG
import Derived.Test.YtpfdghbjagdhfaaDoorBaseD
import Derived.Test.YtpfdghbjagdhfaaDoorBaseE
namespace Go.Proofs.YtpfdghbjagdhfaaDoor
open Go.RowKit
set_option linter.unusedVariables false
set_option maxRecDepth 100000

theorem smallV_and (a b : Nat) (ha : a ≤ 4096) : a &&& b ≤ 4096 := Nat.le_trans (and_le a b) ha
/-- A drawn number, and the reader behind it. -/
def DrawnV (q R B : Nat) (A : Option Addr) (cb : Nat) (zs : List Int) (p : Nat) (w : World) (e : Ending) (w' : World) : Prop :=
  ∃ (v : Int) (p' : Nat), e = .returned (.int .i64 v) ∧ (-1 ≤ v ∧ v ≤ 4096) ∧ p' ≤ p + q ∧ w.grownBy w' (some R) ∧ Rdr w' R B A cb zs p'
/-- A drawn class of flags, and two numbers. -/
def DrawFNN (w : World) (e : Ending) (w' : World) : Prop :=
  ∃ (A : Option Addr) (c : Nat) (ds : List D) (b x y : Int), e = .returned (.tuple #[.agg #[.slice A ds.length c, .int .i64 b], .int .i64 x, .int .i64 y]) ∧ ds.length ≤ 13 ∧ (∀ d ∈ ds, d.small) ∧ (-1 ≤ b ∧ b ≤ 4) ∧ (-1 ≤ x ∧ x ≤ 4096) ∧ (-1 ≤ y ∧ y ≤ 4096) ∧ SD w' w'.heap.size A ds.length c ds ∧ Below w.heap.size w w'
/-- What valuesIn makes: the class in a row of its own. -/
def GenFNN (R B : Nat) (A : Option Addr) (cb : Nat) (zs : List Int) (p : Nat) (w : World) (e : Ending) (w' : World) : Prop :=
  ∃ (A' : Option Addr) (c : Nat) (ds : List D) (b x y : Int), e = .returned (.tuple #[.agg #[.slice A' ds.length c, .int .i64 b], .int .i64 x, .int .i64 y]) ∧ ds.length ≤ 13 ∧ (∀ d ∈ ds, d.small) ∧ (-1 ≤ b ∧ b ≤ 4) ∧ (-1 ≤ x ∧ x ≤ 4096) ∧ (-1 ≤ y ∧ y ≤ 4096) ∧
    w'.ownsRow w.heap.size 98 2 (.slice A' ds.length c) ds.length (flat ds) ∧ w.grownBy w' (some R)
end Go.Proofs.YtpfdghbjagdhfaaDoor
