import Derived.Test.YtpmanbmhbfnefaaGenF
namespace Go.Proofs.Ytpmanbmhbfnefaa
open Go.RowKit
set_option linter.unusedVariables false
set_option maxRecDepth 100000

theorem SB.allocF {w : World} {A : Option Addr} {n c : Nat} {zs : List Int} (h : SB w w.heap.size A n c zs) (o : Obj) : SB (w.alloc o) (w.alloc o).heap.size A n c zs :=
  ⟨Rd.more (Rd.alloc h.rd (Nat.le_refl _) _) (by simp), h.len, h.cap, h.max, h.byt⟩
/-- A drawn class of flags. -/
def DrawF (w : World) (e : Ending) (w' : World) : Prop :=
  ∃ (A : Option Addr) (c : Nat) (ds : List D) (b : Int), e = .returned (.agg #[.slice A ds.length c, .int .i64 b]) ∧ ds.length ≤ 13 ∧ (∀ d ∈ ds, d.small) ∧ (-1 ≤ b ∧ b ≤ 4) ∧ SD w' w'.heap.size A ds.length c ds ∧ Below w.heap.size w w'
/-- A drawn class of flags and a number. -/
def DrawFN (w : World) (e : Ending) (w' : World) : Prop :=
  ∃ (A : Option Addr) (c : Nat) (ds : List D) (b n : Int), e = .returned (.tuple #[.agg #[.slice A ds.length c, .int .i64 b], .int .i64 n]) ∧ ds.length ≤ 13 ∧ (∀ d ∈ ds, d.small) ∧ (-1 ≤ b ∧ b ≤ 4) ∧ (-5000 ≤ n ∧ n ≤ 5000) ∧ SD w' w'.heap.size A ds.length c ds ∧ Below w.heap.size w w'








end Go.Proofs.Ytpmanbmhbfnefaa
