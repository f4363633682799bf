/-
Plain functions: the changes from definitions to others.
-/
import Derived.Test.YteaiaglangmhbaaDoorBaseC
import Derived.Test.YteaiaglangmhbaaDoorPure2
namespace Go.Proofs.YteaiaglangmhbaaDoor
set_option linter.unusedVariables false
set_option maxRecDepth 100000

def dropC (d : D) : Ch := ⟨1, d.name, d.val, 0⟩
def turnC (d e : D) : Ch := ⟨2, d.name, d.val, e.val⟩
def addC (d : D) : Ch := ⟨0, d.name, 0, d.val⟩
/-- The definition of a name. -/
def defOf (ds : List D) (s : ByteArray) : Option D := if fidx (isNm s) ds < 0 then none else ds[(fidx (isNm s) ds).toNat]?
theorem defOf_none {ds : List D} {s : ByteArray} (h : fidx (isNm s) ds < 0) : defOf ds s = none := by unfold defOf; rw [if_pos h]
theorem defOf_some {ds : List D} {s : ByteArray} {k : Nat} (hk : k < ds.length) (h : fidx (isNm s) ds = (k : Int)) : defOf ds s = some ds[k] := by
  unfold defOf
  rw [h, if_neg (show ¬ ((k : Int) < 0) by omega)]
  simp [hk]
def dropF (b : List D) (d : D) : List Ch := match defOf b d.name with | none => [dropC d] | some _ => []
def turnF (b : List D) (d : D) : List Ch := match defOf b d.name with | none => [] | some e => if e.val = d.val then [] else [turnC d e]
def addF (a : List D) (d : D) : List Ch := match defOf a d.name with | none => [addC d] | some _ => []
def mDiff (a b : List D) : List Ch := a.flatMap (dropF b) ++ a.flatMap (turnF b) ++ b.flatMap (addF a)
theorem fm_snoc {α β : Type} (f : α → List β) (l : List α) (k : Nat) (h : k < l.length) : (l.take (k + 1)).flatMap f = (l.take k).flatMap f ++ f l[k] := by
  rw [List.take_succ_eq_append_getElem h, List.flatMap_append]; simp
theorem dropF_no {b : List D} {d : D} {k : Nat} (hk : k < b.length) (h : fidx (isNm d.name) b = (k : Int)) : dropF b d = [] := by unfold dropF; rw [defOf_some hk h]
theorem dropF_yes {b : List D} {d : D} (h : fidx (isNm d.name) b < 0) : dropF b d = [dropC d] := by unfold dropF; rw [defOf_none h]
theorem addF_no {b : List D} {d : D} {k : Nat} (hk : k < b.length) (h : fidx (isNm d.name) b = (k : Int)) : addF b d = [] := by unfold addF; rw [defOf_some hk h]
theorem addF_yes {b : List D} {d : D} (h : fidx (isNm d.name) b < 0) : addF b d = [addC d] := by unfold addF; rw [defOf_none h]
theorem turnF_none {b : List D} {d : D} (h : fidx (isNm d.name) b < 0) : turnF b d = [] := by unfold turnF; rw [defOf_none h]
theorem turnF_same {b : List D} {d : D} {k : Nat} (hk : k < b.length) (h : fidx (isNm d.name) b = (k : Int)) (e : b[k].val = d.val) : turnF b d = [] := by
  unfold turnF; rw [defOf_some hk h]; simp [e]
theorem turnF_other {b : List D} {d : D} {k : Nat} (hk : k < b.length) (h : fidx (isNm d.name) b = (k : Int)) (e : b[k].val ≠ d.val) : turnF b d = [turnC d b[k]] := by
  unfold turnF; rw [defOf_some hk h]; simp [e]
theorem fm_le {α β : Type} (f : α → List β) (hf : ∀ x, (f x).length ≤ 1) (l : List α) : (l.flatMap f).length ≤ l.length := by
  induction l with
  | nil => simp
  | cons x r ih => rw [List.flatMap_cons, List.length_append, List.length_cons]; have := hf x; omega
theorem dropF_le (b : List D) (d : D) : (dropF b d).length ≤ 1 := by unfold dropF; split <;> simp
theorem turnF_le (b : List D) (d : D) : (turnF b d).length ≤ 1 := by unfold turnF; split; simp; split <;> simp
theorem addF_le (b : List D) (d : D) : (addF b d).length ≤ 1 := by unfold addF; split <;> simp
theorem mDiff_len (a b : List D) : (mDiff a b).length ≤ a.length + a.length + b.length := by
  unfold mDiff
  rw [List.length_append, List.length_append]
  have h1 := fm_le (dropF b) (dropF_le b) a
  have h2 := fm_le (turnF b) (turnF_le b) a
  have h3 := fm_le (addF a) (addF_le a) b
  omega
theorem defOf_mem {ds : List D} {s : ByteArray} {d : D} (h : defOf ds s = some d) : d ∈ ds := by
  unfold defOf at h
  split at h
  · cases h
  · exact List.mem_of_getElem? h
theorem mDiff_ok {a b : List D} (ha : ∀ d ∈ a, d.ok) (hb : ∀ d ∈ b, d.ok) : ∀ c ∈ mDiff a b, c.ok := by
  intro c hc
  have i0 : I64 0 := by unfold I64; omega
  have i1 : I64 1 := by unfold I64; omega
  have i2 : I64 2 := by unfold I64; omega
  unfold mDiff at hc
  simp only [List.mem_append, List.mem_flatMap] at hc
  rcases hc with (⟨d, hd, hx⟩ | ⟨d, hd, hx⟩) | ⟨d, hd, hx⟩
  · unfold dropF at hx
    split at hx
    · simp at hx; subst hx; exact ⟨(ha d hd).1, i1, (ha d hd).2, i0⟩
    · cases hx
  · unfold turnF at hx
    split at hx
    · cases hx
    · rename_i e he
      split at hx
      · cases hx
      · simp at hx; subst hx; exact ⟨(ha d hd).1, i2, (ha d hd).2, (hb e (defOf_mem he)).2⟩
  · unfold addF at hx
    split at hx
    · simp at hx; subst hx; exact ⟨(hb d hd).1, i0, i0, (hb d hd).2⟩
    · cases hx
end Go.Proofs.YteaiaglangmhbaaDoor
