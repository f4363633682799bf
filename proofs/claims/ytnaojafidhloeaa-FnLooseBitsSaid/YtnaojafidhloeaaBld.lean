import Derived.Test.YtnaojafidhloeaaItems
import Derived.Test.YtnaojafidhloeaaApp
namespace Go.Proofs.Ytnaojafidhloeaa
open Go.RowKit Go.Maps
set_option linter.unusedVariables false
set_option maxRecDepth 100000

/-! ### validItems -/
/-! ### the next value -/
theorem hiTo_bds {ds : List D} {b : Int} (hb : 0 ≤ b) (h : ∀ d ∈ ds, -b ≤ d.val ∧ d.val ≤ b) (k : Nat) : hiTo ds k ≤ b ∧ -b ≤ hiTo ds k := by
  have key : ∀ k, -b ≤ valAt ds k ∧ valAt ds k ≤ b := by
    intro k
    unfold valAt
    split
    · rename_i d e; exact h d (List.mem_of_getElem? e)
    · omega
  induction k with
  | zero => have := key 0; show valAt ds 0 ≤ _ ∧ _ ≤ valAt ds 0; omega
  | succ k ih => have := key k; show max (hiTo ds k) (valAt ds k) ≤ _ ∧ _ ≤ max (hiTo ds k) (valAt ds k); omega

def toldOf (a : Bool) (v : Int) : Int := if a then (if v == 0 then 1 else 2) else 0
end Go.Proofs.Ytnaojafidhloeaa
