import Derived.Test.YtkholjcmaebaaaaDiffP
import Derived.Test.YtkholjcmaebaaaaCatK
namespace Go.Proofs.Ytkholjcmaebaaaa
open Go.RowKit
set_option linter.unusedVariables false
set_option maxRecDepth 100000

/-- The changes from an enumeration to another one. -/
def mDiffE (ds es : List D) : List Ch := if vEnum ds && vEnum es then mDiff ds es else []
theorem mDiffE_no {ds es : List D} (h : vEnum ds = false ∨ vEnum es = false) : mDiffE ds es = [] := by
  unfold mDiffE
  rcases h with h | h
  · rw [h]; rfl
  · rw [h, Bool.and_false]; rfl
theorem mDiffE_yes {ds es : List D} (h : vEnum ds = true) (h2 : vEnum es = true) : mDiffE ds es = mDiff ds es := by
  unfold mDiffE
  rw [h, h2]; rfl
theorem mDiffE_len (ds es : List D) : (mDiffE ds es).length ≤ 36 := by
  unfold mDiffE
  split
  · rename_i h
    rw [Bool.and_eq_true] at h
    have := mDiff_len ds es
    have := vEnum_len h.1
    have := vEnum_len h.2
    omega
  · exact Nat.zero_le _
theorem mDiffE_ok {ds es : List D} (ha : ∀ d ∈ ds, d.ok) (hb : ∀ d ∈ es, d.ok) : ∀ c ∈ mDiffE ds es, c.ok := by
  unfold mDiffE
  split
  · exact mDiff_ok ha hb
  · intro c hc; cases hc

theorem FreshK_nil {w w' : World} (hb : Below w.heap.size w w') : FreshK [] w (.returned (.slice none 0 0)) w' := ⟨none, 0, rfl, World.ownsRow_nil _ _ _ _, hb⟩
end Go.Proofs.Ytkholjcmaebaaaa
