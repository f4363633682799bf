import Derived.Test.YtpmanbmhbfnefaaBaseG
import Derived.Test.YtpmanbmhbfnefaaZapT
namespace Go.Proofs.Ytpmanbmhbfnefaa
open Go.RowKit
set_option linter.unusedVariables false
set_option maxRecDepth 100000

def It.small (t : It) : Prop := t.name.size ≤ 100 ∧ -5000 ≤ t.val ∧ t.val ≤ 5000
theorem It.small_ok {t : It} (h : t.small) : t.ok := by
  obtain ⟨h1, h2, h3⟩ := h
  exact ⟨by unfold maxLen; omega, by omega, by omega⟩
theorem grown_rowO {w W w' : World} {row r2 : Option Nat} (h : w.grownBy W row) (hg : W.grownBy w' r2) (hw : ∀ k, r2 = some k → w.heap.size ≤ k) : w.grownBy w' row :=
  ⟨hg.os.trans h.os, hg.tape.trans h.tape, hg.output.trans h.output, Nat.le_trans h.size hg.size, fun k hk hr => (hg.block k (Nat.lt_of_lt_of_le hk h.size) (fun e => by have := hw k e.symm; omega)).trans (h.block k hk hr)⟩
end Go.Proofs.Ytpmanbmhbfnefaa
