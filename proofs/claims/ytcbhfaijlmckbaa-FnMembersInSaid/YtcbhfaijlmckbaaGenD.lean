import Derived.Test.YtcbhfaijlmckbaaGenN
namespace Go.Proofs.Ytcbhfaijlmckbaa
open Go.RowKit
set_option linter.unusedVariables false

theorem SB.alloc0 {w : World} {A : Option Addr} {n c : Nat} {zs : List Int} (h : SB w w.heap.size A n c zs) (o : Obj) : SB (w.alloc o) (w.alloc o).heap.size A n c zs :=
  ⟨Rd.more (Rd.alloc h.rd (Nat.le_refl _) _) (by simp), h.len, h.cap, h.max, h.byt⟩
/-- A drawn enumeration. -/
def DrawE (w : World) (e : Ending) (w' : World) : Prop :=
  ∃ (A : Option Addr) (c : Nat) (ds : List D), e = .returned (.agg #[.slice A ds.length c]) ∧ ds.length ≤ 25 ∧ (∀ d ∈ ds, d.small) ∧ SD w' w'.heap.size A ds.length c ds ∧ Below w.heap.size w w'
/-- A drawn enumeration and a name. -/
def DrawN (w : World) (e : Ending) (w' : World) : Prop :=
  ∃ (A : Option Addr) (c : Nat) (ds : List D) (s : ByteArray), e = .returned (.tuple #[.agg #[.slice A ds.length c], .string s]) ∧ s.size ≤ 100 ∧ ds.length ≤ 25 ∧ (∀ d ∈ ds, d.small) ∧ SD w' w'.heap.size A ds.length c ds ∧ Below w.heap.size w w'










end Go.Proofs.Ytcbhfaijlmckbaa
