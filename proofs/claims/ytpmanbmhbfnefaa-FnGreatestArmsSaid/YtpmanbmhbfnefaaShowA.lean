import Derived.Test.YtpmanbmhbfnefaaBaseE
namespace Go.Proofs.Ytpmanbmhbfnefaa
open Go.RowKit Go.Maps
set_option linter.unusedVariables false
set_option maxRecDepth 100000

/-! ### ExactName -/
def mExOk (ds : List D) (b x : Int) : Bool := vFlag ds b && decide (0 ≤ fidx (isVal x) ds)
def mExN (ds : List D) (b x : Int) : ByteArray := if mExOk ds b x then (ds[(fidx (isVal x) ds).toNat]?).elim ByteArray.empty D.name else ByteArray.empty
theorem mEx_no {ds : List D} {b x : Int} (h : mExOk ds b x = false) : mExN ds b x = ByteArray.empty := by unfold mExN; rw [h]; rfl
theorem mEx_yes {ds : List D} {b x : Int} (hv : vFlag ds b = true) {j : Nat} (hj : j < ds.length) (h : fidx (isVal x) ds = j) : mExOk ds b x = true ∧ mExN ds b x = ds[j].name := by
  have h1 : mExOk ds b x = true := by unfold mExOk; rw [hv, h, decide_eq_true (by omega)]; rfl
  refine ⟨h1, ?_⟩
  unfold mExN; rw [h1, if_pos rfl, h, Int.toNat_natCast, List.getElem?_eq_getElem hj]; rfl
theorem mExN_ok {ds : List D} {b x : Int} (h : ∀ d ∈ ds, d.ok) : (mExN ds b x).size ≤ maxLen := by
  unfold mExN
  split
  · cases hg : ds[(fidx (isVal x) ds).toNat]? with
    | none => exact Nat.zero_le _
    | some d => exact (h d (List.mem_of_getElem? hg)).1
  · exact Nat.zero_le _
end Go.Proofs.Ytpmanbmhbfnefaa
