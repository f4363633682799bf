import Derived.Test.YteaiaglangmhbaaDoorDiffP
import Derived.Test.YteaiaglangmhbaaDoorBaseC
namespace Go.Proofs.YteaiaglangmhbaaDoor
open Go.RowKit
set_option linter.unusedVariables false
set_option maxRecDepth 100000

/-- What a second enumeration adds. -/
def newF (a : List D) (d : D) : List D := match defOf a d.name with | none => [d] | some _ => []
/-- A name with two values. -/
def clash (a : List D) (d : D) : Bool := match defOf a d.name with | none => false | some e => e.val != d.val
def mMerge (a b : List D) : Option (List D) := if vEnum a && vEnum b then (if b.any (clash a) then none else chkO (a ++ b.flatMap (newF a))) else none
theorem newF_yes {a : List D} {d : D} (h : fidx (isNm d.name) a < 0) : newF a d = [d] := by unfold newF; rw [defOf_none h]
theorem newF_no {a : List D} {d : D} {k : Nat} (hk : k < a.length) (h : fidx (isNm d.name) a = (k : Int)) : newF a d = [] := by unfold newF; rw [defOf_some hk h]
theorem clash_none {a : List D} {d : D} (h : fidx (isNm d.name) a < 0) : clash a d = false := by unfold clash; rw [defOf_none h]
theorem clash_some {a : List D} {d : D} {k : Nat} (hk : k < a.length) (h : fidx (isNm d.name) a = (k : Int)) : clash a d = (a[k].val != d.val) := by unfold clash; rw [defOf_some hk h]
theorem newF_le (a : List D) (d : D) : (newF a d).length ≤ 1 := by unfold newF; split <;> simp
theorem newF_mem {a : List D} {d x : D} (h : x ∈ newF a d) : x = d := by unfold newF at h; split at h; simpa using h; cases h
theorem mMerge_no {a b : List D} (h : vEnum a = false ∨ vEnum b = false) : mMerge a b = none := by
  unfold mMerge
  rcases h with h | h
  · rw [h]; rfl
  · rw [h, Bool.and_false]; rfl
theorem mMerge_clash {a b : List D} {d : D} (hd : d ∈ b) (h : clash a d = true) : mMerge a b = none := by
  unfold mMerge
  split
  · rw [if_pos (List.any_eq_true.2 ⟨d, hd, h⟩)]
  · rfl
theorem mMerge_yes {a b : List D} (ha : vEnum a = true) (hb : vEnum b = true) (h : ∀ i (hi : i < b.length), i < b.length → clash a b[i] = false) : mMerge a b = chkO (a ++ b.flatMap (newF a)) := by
  unfold mMerge
  rw [ha, hb, Bool.and_self, if_pos rfl, if_neg ?_]
  rw [List.any_eq_true]
  intro ⟨d, hd, hc⟩
  obtain ⟨i, hi, rfl⟩ := List.mem_iff_getElem.1 hd
  rw [h i hi hi] at hc
  cases hc
theorem mMerge_len (a b : List D) : ((mMerge a b).getD []).length ≤ 12 := by
  unfold mMerge
  split
  · split
    · exact Nat.zero_le _
    · exact chkO_len _
  · exact Nat.zero_le _
theorem mMerge_mem {a b : List D} {x : D} (h : x ∈ (mMerge a b).getD []) : x ∈ a ∨ x ∈ b := by
  unfold mMerge at h
  split at h
  · split at h
    · cases h
    · rcases List.mem_append.1 (chkO_mem h) with h | h
      · exact .inl h
      · obtain ⟨d, hd, hx⟩ := List.mem_flatMap.1 h
        rw [newF_mem hx]; exact .inr hd
  · cases h
theorem merge_ok {a b : List D} (ha : ∀ d ∈ a, d.ok) (hb : ∀ d ∈ b, d.ok) : ∀ x ∈ a ++ b.flatMap (newF a), x.ok := by
  intro x hx
  rcases List.mem_append.1 hx with h | h
  · exact ha x h
  · obtain ⟨d, hd, hx⟩ := List.mem_flatMap.1 h
    rw [newF_mem hx]; exact hb d hd
theorem flat_app (xs ys : List D) : flat (xs ++ ys) = flat xs ++ flat ys := by unfold flat; rw [List.flatMap_append]
end Go.Proofs.YteaiaglangmhbaaDoor
