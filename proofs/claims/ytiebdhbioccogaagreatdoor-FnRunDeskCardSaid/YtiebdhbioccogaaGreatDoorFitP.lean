import Derived.Test.YtiebdhbioccogaaGreatDoorBaseE
namespace Go.Proofs.YtiebdhbioccogaaGreatDoor
set_option linter.unusedVariables false

/-! ### fitting definitions: no program in sight -/
def hasV (d : D) : Bool := decide (d.val ≠ 0)
def mFit (ds : List D) (a : Nat) : List D := (mWithin ds a).filter hasV
def mFitN (ds : List D) (b x : Int) : List ByteArray := if mIsV ds b x then (mFit ds x.toNat).map (·.name) else []
theorem mFit_len (ds : List D) (a : Nat) : (mFit ds a).length ≤ ds.length := Nat.le_trans (List.length_filter_le _ _) (List.length_filter_le _ _)
theorem mFit_mem {ds : List D} {a : Nat} {d : D} (h : d ∈ mFit ds a) : d ∈ ds := (List.mem_filter.1 (List.mem_filter.1 h).1).1
theorem mFitN_len (ds : List D) (b x : Int) : (mFitN ds b x).length ≤ 12 := by
  unfold mFitN
  cases hv : mIsV ds b x
  · exact Nat.zero_le _
  · show ((mFit ds x.toNat).map _).length ≤ 12
    rw [List.length_map]
    exact Nat.le_trans (mFit_len _ _) (vFlag_len (mIsV_flag hv))
theorem mFitN_ok {ds : List D} {b x : Int} (h : ∀ d ∈ ds, d.ok) : ∀ s ∈ mFitN ds b x, s.size ≤ maxLen := by
  intro s hs
  unfold mFitN at hs
  cases hv : mIsV ds b x
  · rw [hv] at hs; cases hs
  · rw [hv] at hs
    obtain ⟨d, hd, rfl⟩ := List.mem_map.1 hs
    exact (h d (mFit_mem hd)).1
/-- Those among the first k definitions. -/
def fitTo (ds : List D) (a k : Nat) : List D := mFit (ds.take k) a
theorem fitTo_succ (ds : List D) (a k : Nat) (h : k < ds.length) : fitTo ds a (k + 1) = fitTo ds a k ++ if fitIn a ds[k] && hasV ds[k] then [ds[k]] else [] := by
  unfold fitTo mFit mWithin
  rw [List.take_succ_eq_append_getElem h, List.filter_append, List.filter_append]
  congr 1
  cases h1 : fitIn a ds[k] <;> cases h2 : hasV ds[k] <;> simp [h1, h2]
theorem fitTo_len (ds : List D) (a k : Nat) : (fitTo ds a k).length ≤ k := by
  have := mFit_len (ds.take k) a
  have h2 : (ds.take k).length ≤ k := by simp; omega
  unfold fitTo; omega
theorem fitTo_all (ds : List D) (a : Nat) : fitTo ds a ds.length = mFit ds a := by unfold fitTo; rw [List.take_of_length_le (Nat.le_refl _)]
/-- Those with bits among the first k of a list. -/
theorem hasV_succ (ds : List D) (k : Nat) (h : k < ds.length) : (ds.take (k + 1)).filter hasV = (ds.take k).filter hasV ++ if hasV ds[k] then [ds[k]] else [] := by
  rw [List.take_succ_eq_append_getElem h, List.filter_append, List.filter_cons, List.filter_nil]
end Go.Proofs.YtiebdhbioccogaaGreatDoor
