import Derived.Test.YtpmanbmhbfnefaaOpen
import Derived.Test.YtpmanbmhbfnefaaBaseC
namespace Go.Proofs.Ytpmanbmhbfnefaa
open Go.ChangeShapes Go.WideShapes Go.ChangeAt Go.RowKit Go.Deep Go.Joins
set_option linter.unusedVariables false
set_option maxRecDepth 100000

section
variable {H : Type} {enc : TypeId × Value → H} {W : World} {base : Nat} {spare : Nat → Bool} {held : Bool}
theorem open_defsS {r : Reach} {b0 : Nat} {v : Value} {d : DataW H} {p : List MemPlace} (hv : Value.okWide Try.prog W r b0 22 v) (h : DataW.Trod enc Try.prog W base spare held 22 v d p) :
    ∃ (A : Option Addr) (n c : Nat) (ds : List D), v = .slice A n c ∧ SD W W.heap.size A n c ds := by
  obtain ⟨A, n, c, rfl⟩ := okWide_slice Try.underlying22 hv
  obtain ⟨fuel, hf⟩ := h
  have h1 : DataW.trod enc Try.prog W base spare held fuel 22 [.slice A n c] = some (d, p) := by
    simpa [Value.cells] using hf
  obtain ⟨ds, hd⟩ := open_defs h1
  exact ⟨A, n, c, ds, rfl, hd⟩
end
/-- A list of numbers in new memory, and a bool. -/
def IntsB (ms : List Int) (ok : Bool) (w : World) (e : Ending) (w' : World) : Prop :=
  ∃ A c, e = .returned (.tuple #[.slice A ms.length c, .bool ok]) ∧ w'.ownsRow w.heap.size 3 1 (.slice A ms.length c) ms.length (flatI ms) ∧ Below w.heap.size w w'
end Go.Proofs.Ytpmanbmhbfnefaa
