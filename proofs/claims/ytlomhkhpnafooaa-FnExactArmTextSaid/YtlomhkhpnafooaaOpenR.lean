import Derived.Test.YtlomhkhpnafooaaOpen
import Derived.Test.YtlomhkhpnafooaaArms
namespace Go.Proofs.Ytlomhkhpnafooaa
open Go.ChangeShapes Go.WideShapes Go.ChangeAt Go.RowKit Go.Deep Go.Joins
set_option linter.unusedVariables false
set_option maxRecDepth 100000

section
variable {H : Type} {enc : TypeId × Value → H} {W : World} {base : Nat} {spare : Nat → Bool} {held : Bool}
/-- An argument that is one arm. -/
theorem open_arm {r : Reach} {b0 : Nat} {v : Value} {d : DataW H} {p : List MemPlace} (hv : Value.okWide Try.prog W r b0 26 v) (h : DataW.Trod enc Try.prog W base spare held 26 v d p) :
    ∃ a : Ar, v = .agg #[.int .i64 a.all, .int .i64 a.non] ∧ a.ok := by
  obtain ⟨v0, v1, y0, y1, n, rfl, _, _, h0, h1⟩ := open_agg2 Try.underlying26 (by kernel_rfl) (by kernel_rfl) hv h
  obtain ⟨z0, e1, _, hz0⟩ := DataW.trod_int Try.underlying3 h0
  obtain ⟨z1, e2, _, hz1⟩ := DataW.trod_int Try.underlying3 h1
  simp at e1 e2
  subst e1 e2
  exact ⟨⟨z0, z1⟩, rfl, wf_bounds hz0, wf_bounds hz1⟩
end
end Go.Proofs.Ytlomhkhpnafooaa
