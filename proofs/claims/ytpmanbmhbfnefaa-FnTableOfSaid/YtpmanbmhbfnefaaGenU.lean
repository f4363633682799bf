import Derived.Test.YtpmanbmhbfnefaaGenK
import Derived.Test.YtpmanbmhbfnefaaBaseG
namespace Go.Proofs.Ytpmanbmhbfnefaa
open Go.RowKit
set_option linter.unusedVariables false
set_option linter.unusedSimpArgs false
set_option maxRecDepth 100000

/-- A drawn enumeration and a list of names. -/
def DrawEL (w : World) (e : Ending) (w' : World) : Prop :=
  ∃ (A : Option Addr) (c : Nat) (ds : List D) (As : Option Addr) (cs : Nat) (ss : List ByteArray), e = .returned (.tuple #[.agg #[.slice A ds.length c], .slice As ss.length cs]) ∧ ds.length ≤ 25 ∧ (∀ d ∈ ds, d.small) ∧ ss.length ≤ 3 ∧ (∀ s ∈ ss, s.size ≤ 100) ∧ w'.ownsRow w.heap.size 48 2 (.slice A ds.length c) ds.length (flat ds) ∧ w'.ownsRow w.heap.size 9 1 (.slice As ss.length cs) ss.length (flatS ss) ∧ Below w.heap.size w w'
def DrawELs (w : World) (e : Ending) (w' : World) : Prop :=
  ∃ (A : Option Addr) (c : Nat) (ds : List D) (As : Option Addr) (cs : Nat) (ss : List ByteArray), e = .returned (.tuple #[.agg #[.slice A ds.length c], .slice As ss.length cs]) ∧ ds.length ≤ 25 ∧ (∀ d ∈ ds, d.small) ∧ ss.length ≤ 3 ∧ (∀ s ∈ ss, s.size ≤ 100) ∧ SD w' w'.heap.size A ds.length c ds ∧ SS w' w'.heap.size As ss.length cs ss ∧ Below w.heap.size w w'
theorem drawEL_s {w w' : World} {e : Ending} (h : DrawEL w e w') : DrawELs w e w' := by
  obtain ⟨A, c, ds, As, cs, ss, h1, h2, h3, h4, h5, h6, h7, h8⟩ := h
  exact ⟨A, c, ds, As, cs, ss, h1, h2, h3, h4, h5, sd_of_own h6 (fun d hd => small_ok (h3 d hd)), ss_of_own h7 (fun s hs => by have := h5 s hs; unfold maxLen; omega), h8⟩
end Go.Proofs.Ytpmanbmhbfnefaa
