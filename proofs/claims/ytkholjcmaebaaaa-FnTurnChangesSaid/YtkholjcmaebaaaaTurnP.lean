import Derived.Test.YtkholjcmaebaaaaBaseC
namespace Go.Proofs.Ytkholjcmaebaaaa
open Go.RowKit
set_option linter.unusedVariables false
set_option maxRecDepth 100000

/-! ### changes turned round -/
def turnKd (k : Int) : Int := if k = 0 then 1 else if k = 1 then 0 else k
def revC (c : Ch) : Ch := ⟨turnKd c.kind, c.name, c.new, c.old⟩
def mTurn (ks : List Ch) : List Ch := ks.reverse.map revC
theorem mTurn_len (ks : List Ch) : (mTurn ks).length = ks.length := by simp [mTurn]
theorem revC_ok {c : Ch} (h : c.ok) : (revC c).ok := by
  refine ⟨h.1, ?_, h.2.2.2, h.2.2.1⟩
  unfold revC turnKd
  simp only
  have := h.2.1
  unfold I64 at *
  split
  · omega
  · split <;> omega
theorem mTurn_ok {ks : List Ch} (h : ∀ x ∈ ks, x.ok) : ∀ x ∈ mTurn ks, x.ok := fun x hx => by
  unfold mTurn at hx
  rw [List.mem_map] at hx
  obtain ⟨y, hy, rfl⟩ := hx
  exact revC_ok (h y (by simpa using hy))
theorem turn_snoc {ks : List Ch} {k : Nat} (h : k < ks.length) : (ks.drop k).reverse.map revC = (ks.drop (k + 1)).reverse.map revC ++ [revC ks[k]] := by
  rw [List.drop_eq_getElem_cons h, List.reverse_cons, List.map_append]; rfl
end Go.Proofs.Ytkholjcmaebaaaa
