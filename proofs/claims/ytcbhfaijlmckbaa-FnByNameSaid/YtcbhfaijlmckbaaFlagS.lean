import Derived.Test.YtcbhfaijlmckbaaFlagB
import Derived.Test.YtcbhfaijlmckbaaBaseC
namespace Go.Proofs.Ytcbhfaijlmckbaa
open Go.RowKit Go.Maps
set_option linter.unusedVariables false
set_option maxRecDepth 100000

/-! ### the model's functions of chapter 3 -/
def mMaskOf (ds : List D) (b : Int) : Int := if vFlag ds b then (mMask ds : Int) else -1
def mLooseOf (ds : List D) (b : Int) : Int := if vFlag ds b then (mLoose ds : Int) else -1
def mHighOf (ds : List D) (b : Int) : Int := if vFlag ds b then (mHigh ds : Int) else -1
def mSgOf (ds : List D) (b : Int) : List ByteArray := if vFlag ds b then (mSg ds).map (·.name) else []
def mCompOf (ds : List D) (b : Int) : List ByteArray := if vFlag ds b then (mComp ds).map (·.name) else []
def compTo (ds : List D) (k : Nat) : List D := (ds.take k).filter isComp
theorem compTo_succ (ds : List D) (k : Nat) (h : k < ds.length) : compTo ds (k + 1) = compTo ds k ++ if isComp ds[k] then [ds[k]] else [] := by
  unfold compTo
  rw [List.take_succ_eq_append_getElem h, List.filter_append, List.filter_cons, List.filter_nil]
theorem compTo_len (ds : List D) (k : Nat) : (compTo ds k).length ≤ k := by
  have := List.length_filter_le isComp (ds.take k)
  have h2 : (ds.take k).length ≤ k := by simp; omega
  unfold compTo; omega
theorem if_no {α : Type} {v : Bool} {a b : α} (h : v = false) : (if v then a else b) = b := by rw [h]; rfl
theorem if_yes {α : Type} {v : Bool} {a b : α} (h : v = true) : (if v then a else b) = a := by rw [h]; rfl
/-! ### how values are made -/
end Go.Proofs.Ytcbhfaijlmckbaa
