import Derived.Test.YtiebdhbioccogaaGreatDoorBaseA
import Derived.Test.YtiebdhbioccogaaGreatDoorBaseC
import Derived.Test.YtiebdhbioccogaaGreatDoorBaseB
/-
Plain facts on valid enumerations: what makes one, and what is still one when definitions are left out or put in another order.
-/
namespace Go.Proofs.YtiebdhbioccogaaGreatDoor
set_option linter.unusedVariables false
set_option maxRecDepth 100000

/-- A definition by itself. -/
def okD (d : D) : Prop := vName d.name = true ∧ -1000 ≤ d.val ∧ d.val ≤ 1000
def NoDup (ds : List D) : Prop := ds.Pairwise fun a b => a.name ≠ b.name
theorem vEnum_iff (ds : List D) : vEnum ds = true ↔ ds.length ≤ 12 ∧ (∀ d ∈ ds, okD d) ∧ NoDup ds := by
  unfold vEnum vDefs NoDup
  rw [Bool.and_eq_true, decide_eq_true_iff, decide_eq_true_iff, and_comm]
  refine and_congr Iff.rfl ?_
  rw [List.pairwise_iff_getElem]
  have hg : ∀ i (h : i < ds.length), goodAt (-1000) 1000 ds i ds[i] = true ↔ okD ds[i] ∧ ∀ j (hj : j < ds.length), j < i → ds[j].name ≠ ds[i].name := by
    intro i hi
    unfold goodAt okD
    rw [fidx_any]
    simp only [Bool.and_eq_true, decide_eq_true_iff, Bool.not_eq_true', List.any_eq_false, and_assoc]
    refine and_congr Iff.rfl (and_congr Iff.rfl (and_congr Iff.rfl ?_))
    constructor
    · intro h j hj hji e
      exact h ds[j] (List.mem_iff_getElem.2 ⟨j, by simp; omega, by simp⟩) (isNm_iff.2 e)
    · intro h x hx
      obtain ⟨j, hj, rfl⟩ := List.mem_iff_getElem.1 hx
      have hj2 : j < i ∧ j < ds.length := by rw [List.length_take] at hj; omega
      intro e
      exact h j hj2.2 hj2.1 (by simpa using isNm_iff.1 e)
  constructor
  · intro h
    refine ⟨fun d hd => ?_, fun i j hi hj hij => ((hg j hj).1 (h j hj hj)).2 i hi hij⟩
    obtain ⟨i, hi, rfl⟩ := List.mem_iff_getElem.1 hd
    exact ((hg i hi).1 (h i hi hi)).1
  · intro ⟨h1, h2⟩ i hi _
    exact (hg i hi).2 ⟨h1 _ (List.getElem_mem hi), fun j hj hji => h2 j i hj hi hji⟩
theorem vEnum_sub {ds es : List D} (h : vEnum ds = true) (hs : es.Sublist ds) : vEnum es = true := by
  rw [vEnum_iff] at *
  exact ⟨Nat.le_trans hs.length_le h.1, fun d hd => h.2.1 d (hs.subset hd), h.2.2.sublist hs⟩
/-- ds without the definition at k. -/
def ers (ds : List D) (k : Nat) : List D := ds.take k ++ ds.drop (k + 1)
theorem ers_sub (ds : List D) (k : Nat) : (ers ds k).Sublist ds := by
  have h : ds = ds.take k ++ ds.drop k := (List.take_append_drop k ds).symm
  unfold ers
  conv => rhs; rw [h]
  refine List.Sublist.append (List.Sublist.refl _) ?_
  have : ds.drop (k + 1) = (ds.drop k).drop 1 := by rw [List.drop_drop]
  rw [this]
  exact List.drop_sublist _ _
theorem ers_len (ds : List D) (k : Nat) (h : k < ds.length) : (ers ds k).length = ds.length - 1 := by
  unfold ers; simp; omega
theorem ers_mem {ds : List D} {k : Nat} {x : D} (h : x ∈ ers ds k) : x ∈ ds := (ers_sub ds k).subset h
theorem vEnum_ers {ds : List D} (h : vEnum ds = true) (k : Nat) : vEnum (ers ds k) = true := vEnum_sub h (ers_sub ds k)
/-- Names are met once. -/
theorem nodup_inj {ds : List D} (h : NoDup ds) {i j : Nat} (hi : i < ds.length) (hj : j < ds.length) (e : ds[i].name = ds[j].name) : i = j := by
  unfold NoDup at h
  rw [List.pairwise_iff_getElem] at h
  rcases Nat.lt_trichotomy i j with hij | hij | hij
  · exact absurd e (h i j hi hj hij)
  · exact hij
  · exact absurd e.symm (h j i hj hi hij)
end Go.Proofs.YtiebdhbioccogaaGreatDoor

/-
Plain functions: the changes from definitions to others.
-/
namespace Go.Proofs.YtiebdhbioccogaaGreatDoor
set_option linter.unusedVariables false
set_option maxRecDepth 100000

def dropC (d : D) : Ch := ⟨1, d.name, d.val, 0⟩
def turnC (d e : D) : Ch := ⟨2, d.name, d.val, e.val⟩
def addC (d : D) : Ch := ⟨0, d.name, 0, d.val⟩
/-- The definition of a name. -/
def defOf (ds : List D) (s : ByteArray) : Option D := if fidx (isNm s) ds < 0 then none else ds[(fidx (isNm s) ds).toNat]?
theorem defOf_none {ds : List D} {s : ByteArray} (h : fidx (isNm s) ds < 0) : defOf ds s = none := by unfold defOf; rw [if_pos h]
theorem defOf_some {ds : List D} {s : ByteArray} {k : Nat} (hk : k < ds.length) (h : fidx (isNm s) ds = (k : Int)) : defOf ds s = some ds[k] := by
  unfold defOf
  rw [h, if_neg (show ¬ ((k : Int) < 0) by omega)]
  simp [hk]
def dropF (b : List D) (d : D) : List Ch := match defOf b d.name with | none => [dropC d] | some _ => []
def turnF (b : List D) (d : D) : List Ch := match defOf b d.name with | none => [] | some e => if e.val = d.val then [] else [turnC d e]
def addF (a : List D) (d : D) : List Ch := match defOf a d.name with | none => [addC d] | some _ => []
def mDiff (a b : List D) : List Ch := a.flatMap (dropF b) ++ a.flatMap (turnF b) ++ b.flatMap (addF a)
theorem fm_snoc {α β : Type} (f : α → List β) (l : List α) (k : Nat) (h : k < l.length) : (l.take (k + 1)).flatMap f = (l.take k).flatMap f ++ f l[k] := by
  rw [List.take_succ_eq_append_getElem h, List.flatMap_append]; simp
theorem dropF_no {b : List D} {d : D} {k : Nat} (hk : k < b.length) (h : fidx (isNm d.name) b = (k : Int)) : dropF b d = [] := by unfold dropF; rw [defOf_some hk h]
theorem dropF_yes {b : List D} {d : D} (h : fidx (isNm d.name) b < 0) : dropF b d = [dropC d] := by unfold dropF; rw [defOf_none h]
theorem addF_no {b : List D} {d : D} {k : Nat} (hk : k < b.length) (h : fidx (isNm d.name) b = (k : Int)) : addF b d = [] := by unfold addF; rw [defOf_some hk h]
theorem addF_yes {b : List D} {d : D} (h : fidx (isNm d.name) b < 0) : addF b d = [addC d] := by unfold addF; rw [defOf_none h]
theorem turnF_none {b : List D} {d : D} (h : fidx (isNm d.name) b < 0) : turnF b d = [] := by unfold turnF; rw [defOf_none h]
theorem turnF_same {b : List D} {d : D} {k : Nat} (hk : k < b.length) (h : fidx (isNm d.name) b = (k : Int)) (e : b[k].val = d.val) : turnF b d = [] := by
  unfold turnF; rw [defOf_some hk h]; simp [e]
theorem turnF_other {b : List D} {d : D} {k : Nat} (hk : k < b.length) (h : fidx (isNm d.name) b = (k : Int)) (e : b[k].val ≠ d.val) : turnF b d = [turnC d b[k]] := by
  unfold turnF; rw [defOf_some hk h]; simp [e]
theorem fm_le {α β : Type} (f : α → List β) (hf : ∀ x, (f x).length ≤ 1) (l : List α) : (l.flatMap f).length ≤ l.length := by
  induction l with
  | nil => simp
  | cons x r ih => rw [List.flatMap_cons, List.length_append, List.length_cons]; have := hf x; omega
theorem dropF_le (b : List D) (d : D) : (dropF b d).length ≤ 1 := by unfold dropF; split <;> simp
theorem turnF_le (b : List D) (d : D) : (turnF b d).length ≤ 1 := by unfold turnF; split; simp; split <;> simp
theorem addF_le (b : List D) (d : D) : (addF b d).length ≤ 1 := by unfold addF; split <;> simp
theorem mDiff_len (a b : List D) : (mDiff a b).length ≤ a.length + a.length + b.length := by
  unfold mDiff
  rw [List.length_append, List.length_append]
  have h1 := fm_le (dropF b) (dropF_le b) a
  have h2 := fm_le (turnF b) (turnF_le b) a
  have h3 := fm_le (addF a) (addF_le a) b
  omega
theorem defOf_mem {ds : List D} {s : ByteArray} {d : D} (h : defOf ds s = some d) : d ∈ ds := by
  unfold defOf at h
  split at h
  · cases h
  · exact List.mem_of_getElem? h
theorem mDiff_ok {a b : List D} (ha : ∀ d ∈ a, d.ok) (hb : ∀ d ∈ b, d.ok) : ∀ c ∈ mDiff a b, c.ok := by
  intro c hc
  have i0 : I64 0 := by unfold I64; omega
  have i1 : I64 1 := by unfold I64; omega
  have i2 : I64 2 := by unfold I64; omega
  unfold mDiff at hc
  simp only [List.mem_append, List.mem_flatMap] at hc
  rcases hc with (⟨d, hd, hx⟩ | ⟨d, hd, hx⟩) | ⟨d, hd, hx⟩
  · unfold dropF at hx
    split at hx
    · simp at hx; subst hx; exact ⟨(ha d hd).1, i1, (ha d hd).2, i0⟩
    · cases hx
  · unfold turnF at hx
    split at hx
    · cases hx
    · rename_i e he
      split at hx
      · cases hx
      · simp at hx; subst hx; exact ⟨(ha d hd).1, i2, (ha d hd).2, (hb e (defOf_mem he)).2⟩
  · unfold addF at hx
    split at hx
    · simp at hx; subst hx; exact ⟨(hb d hd).1, i0, i0, (hb d hd).2⟩
    · cases hx
end Go.Proofs.YtiebdhbioccogaaGreatDoor

namespace Go.Proofs.YtiebdhbioccogaaGreatDoor
open Go.RowKit
set_option linter.unusedVariables false
set_option maxRecDepth 100000

/-- 's[k:]', without a word on where it lies. -/
theorem run_from {w : World} {B n c : Nat} {A : Option Addr} {ds : List D} (h : SD w B A n c ds) (k : Nat) (hk : k ≤ n) :
    ∃ A2, (∀ W : World, (Instr.slice 33 (.slice A n c) (some (.int .i64 (k : Int))) none none).run Tryz.prog W = .ok (.slice A2 (n - k) (c - k)) W) ∧ SD w B A2 (n - k) (c - k) (ds.drop k) := by
  refine ⟨if c = k then A else A.map (·.add (k * 2)), fun W => ?_, h.drop_ k hk⟩
  have hi : (k : Int) ≤ (n : Int) := by omega
  have h0 : (0 : Int) ≤ (k : Int) := by omega
  rw [run_slice_l (P := Tryz.prog) W 33 A n c (by kernel_rfl) .i64 (k : Int) h0 hi]
  have hs : (sizeOf (Tryz.prog.elem 33)).run Tryz.prog W = .ok 2 W := by kernel_rfl
  rw [hs]
  simp [Result.andThen, sliced]
/-- 's[:k]'. -/
theorem run_to (A : Option Addr) (n c k : Nat) (hk : k ≤ c) (W : World) :
    (Instr.slice 33 (.slice A n c) none (some (.int .i64 (k : Int))) none).run Tryz.prog W = .ok (.slice A k c) W := by
  have hi : (k : Int) ≤ (c : Int) := by omega
  have h0 : (0 : Int) ≤ (k : Int) := by omega
  rw [run_slice_h (P := Tryz.prog) W 33 A n c (by kernel_rfl) .i64 (k : Int) h0 hi]
  have hs : (sizeOf (Tryz.prog.elem 33)).run Tryz.prog W = .ok 2 W := by kernel_rfl
  rw [hs]
  cases A <;> simp [Result.andThen, sliced, Addr.add]
/-- An append of whatever slice, as one step of a region that draws its order. -/
theorem step_app_src {P : Program} {W : World} {ops : Array Oper} {o : Oper} {a : Act} {K : Act → World → Prop} {Q : Exit → Act → World → Prop} {E : Prop} (hgd : o.guard = none) (s x : Operand) (t : TypeId)
    (ho : o.op = .call { callee := .builtin .append, args := #[s, x], argTypes := #[t, t] })
    (base : Nat) (e : TypeId) (i : TypeInfo) (z : Value) (size bytes : Nat) (ht : P.underlying t = some (.slice e)) (hi : P.info? e = some i ∧ i.zero = some z ∧ i.size = size ∧ i.bytes = bytes)
    (hzs : z.cells.size = size) (hsz : 0 < size) (hby : bytes ≤ 48)
    (v : Value) (n : Nat) (xs : List Value) (hs : a.eval s = v) (hown : W.ownsRow base e size v n xs)
    (A : Option Addr) (m c : Nat) (news : List Value) (hx : a.eval x = .slice A m c) (hsrc : Src W size A m news) (h1 : ∀ u ∈ news, u.oneCell' = true) (hn : n + m ≤ 2000000) (hbase : base ≤ W.heap.size)
    (hK : ∀ v' w', w'.ownsRow base e size v' (n + m) (xs ++ news) → W.grownBy w' v.ownBlock → K (a.put o.dst v') w') :
    if Region.wanted o (yielded ops a.tmps) = true then Oper.wp P o a W K Q else E := by
  have hw : Region.wanted o (yielded ops a.tmps) = true := by simp [Region.wanted, hgd]
  rw [if_pos hw]
  obtain ⟨v', w', hr, h2, h3⟩ := run_app_src (P := P) W base t o.type e i z size bytes ht hi.1 hi.2.1 hi.2.2.1 hi.2.2.2 hzs hsz v n xs hown A m c news hsrc h1 (by unfold maxLen; omega) (by have : (n + m) * bytes ≤ 2000000 * 48 := Nat.mul_le_mul hn hby; omega) hbase
  unfold Oper.wp
  simp only [execOp, ho, resolve, invoke, builtin, Sem.run_bind, Sem.run_pure, Result.andThen_ok, List.map_toArray, List.map_cons, List.map_nil, hs, hx, hr]
  exact hK v' w' h2 h3

/-- ds with others in the place of the definition at k. -/
def rep (ds : List D) (k : Nat) (os : List D) : List D := ds.take k ++ (os ++ ds.drop (k + 1))

end Go.Proofs.YtiebdhbioccogaaGreatDoor

namespace Go.Proofs.YtiebdhbioccogaaGreatDoor
open Go.RowKit
set_option linter.unusedVariables false
set_option maxRecDepth 100000

theorem SD.none_ (w : World) (B : Nat) : SD w B none 0 0 [] := ⟨Rd.nil_, rfl, Nat.le_refl _, by unfold maxLen; omega, by simp⟩
/-- ds without the definition of s, or none. -/
def mDrop (ds : List D) (s : ByteArray) : Option (List D) := if vEnum ds then (if fidx (isNm s) ds < 0 then none else some (ers ds (fidx (isNm s) ds).toNat)) else none
theorem mDrop_no {ds : List D} {s : ByteArray} (h : vEnum ds = false ∨ fidx (isNm s) ds < 0) : mDrop ds s = none := by
  unfold mDrop
  rcases h with h | h
  · rw [h]; rfl
  · rw [if_pos h]; split <;> rfl
theorem mDrop_yes {ds : List D} {s : ByteArray} {k : Nat} (h : vEnum ds = true) (hx : fidx (isNm s) ds = (k : Int)) : mDrop ds s = some (ers ds k) := by
  unfold mDrop
  rw [if_pos h, hx, if_neg (show ¬ ((k : Int) < 0) by omega)]
  simp
theorem mDrop_mem {ds : List D} {s : ByteArray} {x : D} (h : x ∈ (mDrop ds s).getD []) : x ∈ ds := by
  unfold mDrop at h
  split at h
  · split at h
    · cases h
    · exact ers_mem h
  · cases h
theorem mDrop_len (ds : List D) (s : ByteArray) : ((mDrop ds s).getD []).length ≤ 12 := by
  unfold mDrop
  split
  · rename_i hv
    split
    · exact Nat.zero_le _
    · exact vEnum_len (vEnum_ers hv _)
  · exact Nat.zero_le _
theorem enumP_some {ds : List D} {w w' : World} {A : Option Addr} {n c : Nat} (hl : ds.length = n) (ho : w'.ownsRow w.heap.size 108 2 (.slice A n c) n (flat ds)) (hb : Below w.heap.size w w') : EnumP (some ds) w (.returned (.tuple #[.agg #[.slice A n c], .bool true])) w' := by
  subst hl
  exact ⟨A, c, rfl, ho, hb⟩
theorem chkO_yes {ds : List D} (h : vEnum ds = true) : chkO ds = some ds := by unfold chkO; rw [h]; rfl

end Go.Proofs.YtiebdhbioccogaaGreatDoor

namespace Go.Proofs.YtiebdhbioccogaaGreatDoor
open Go.RowKit
set_option linter.unusedVariables false
set_option maxRecDepth 100000

/-- ds with another name for s, or none. -/
def mRename (ds : List D) (s to : ByteArray) : Option (List D) :=
  if vEnum ds then (match ds[(fidx (isNm s) ds).toNat]? with | some d => if fidx (isNm s) ds < 0 then none else chkO (rep ds (fidx (isNm s) ds).toNat [⟨to, d.val⟩]) | none => none) else none
theorem mRename_no {ds : List D} {s to : ByteArray} (h : vEnum ds = false ∨ fidx (isNm s) ds < 0) : mRename ds s to = none := by
  unfold mRename
  rcases h with h | h
  · rw [h]; rfl
  · split
    · split
      · first | rw [if_pos h] | rfl
      · rfl
    · rfl
theorem mRename_yes {ds : List D} {s to : ByteArray} {k : Nat} (h : vEnum ds = true) (hk : k < ds.length) (hx : fidx (isNm s) ds = (k : Int)) : mRename ds s to = chkO (rep ds k [⟨to, ds[k].val⟩]) := by
  unfold mRename
  rw [if_pos h, hx]
  have : ds[(k : Int).toNat]? = some ds[k] := by simp [hk]
  rw [this]
  simp only
  rw [if_neg (show ¬ ((k : Int) < 0) by omega)]
  simp
theorem rep_mem {ds os : List D} {k : Nat} {x : D} (h : x ∈ rep ds k os) : x ∈ ds ∨ x ∈ os := by
  unfold rep at h
  simp only [List.mem_append] at h
  rcases h with h | h | h
  · exact .inl (List.mem_of_mem_take h)
  · exact .inr h
  · exact .inl (List.mem_of_mem_drop h)
theorem mRename_mem {ds : List D} {s to : ByteArray} {x : D} (h : x ∈ (mRename ds s to).getD []) : x ∈ ds ∨ (x.name = to ∧ ∃ y ∈ ds, x.val = y.val) := by
  unfold mRename at h
  split at h
  · split at h
    · rename_i d hd
      split at h
      · cases h
      · rcases rep_mem (chkO_mem h) with h | h
        · exact .inl h
        · simp at h
          subst h
          exact .inr ⟨rfl, d, List.mem_of_getElem? hd, rfl⟩
    · cases h
  · cases h
theorem mRename_len (ds : List D) (s to : ByteArray) : ((mRename ds s to).getD []).length ≤ 12 := by
  unfold mRename
  split
  · split
    · split
      · exact Nat.zero_le _
      · exact chkO_len _
    · exact Nat.zero_le _
  · exact Nat.zero_le _
theorem rep_set (ds : List D) (k : Nat) (h : k < ds.length) (d : D) : ds.set k d = rep ds k [d] := by
  unfold rep
  rw [List.set_eq_take_append_cons_drop, if_pos h]
  rfl

end Go.Proofs.YtiebdhbioccogaaGreatDoor

/-
Plain functions: when two lists of definitions tell the same.
-/
namespace Go.Proofs.YtiebdhbioccogaaGreatDoor
set_option linter.unusedVariables false
set_option maxRecDepth 100000

theorem D_ext {a b : D} (h1 : a.name = b.name) (h2 : a.val = b.val) : a = b := by
  cases a; cases b; simp at h1 h2; subst h1 h2; rfl
theorem isD_iff {e d : D} : isD e d = true ↔ d = e := by
  unfold isD
  rw [Bool.and_eq_true, beq_iff_eq, beq_iff_eq]
  constructor
  · intro ⟨h1, h2⟩
    exact (D_ext (nm_inj h1) h2).symm
  · intro h; subst h; exact ⟨rfl, rfl⟩
theorem any_isD {e : D} {ds : List D} : ds.any (isD e) = true ↔ e ∈ ds := by
  rw [List.any_eq_true]
  constructor
  · intro ⟨x, hx, h⟩; rw [isD_iff] at h; subst h; exact hx
  · intro h; exact ⟨e, h, isD_iff.2 rfl⟩
theorem defOf_iff {ds : List D} (hn : NoDup ds) {s : ByteArray} {d : D} : defOf ds s = some d ↔ d ∈ ds ∧ d.name = s := by
  rcases fidx_cases (isNm s) ds with ⟨h, hno⟩ | ⟨k, hk, h, hp, _⟩
  · rw [defOf_none (by omega)]
    constructor
    · intro h; cases h
    · intro ⟨hd, he⟩
      obtain ⟨i, hi, rfl⟩ := List.mem_iff_getElem.1 hd
      have := hno i hi hi
      rw [isNm_iff.2 he] at this
      cases this
  · rw [defOf_some hk h]
    rw [isNm_iff] at hp
    constructor
    · intro he; cases he; exact ⟨List.getElem_mem hk, hp⟩
    · intro ⟨hd, he⟩
      obtain ⟨i, hi, rfl⟩ := List.mem_iff_getElem.1 hd
      have := nodup_inj hn hk hi (by rw [hp, he])
      subst this; rfl
theorem defOf_no {ds : List D} {s : ByteArray} : defOf ds s = none ↔ ∀ d ∈ ds, d.name ≠ s := by
  rcases fidx_cases (isNm s) ds with ⟨h, hno⟩ | ⟨k, hk, h, hp, _⟩
  · rw [defOf_none (by omega)]
    refine ⟨fun _ d hd he => ?_, fun _ => rfl⟩
    obtain ⟨i, hi, rfl⟩ := List.mem_iff_getElem.1 hd
    have := hno i hi hi
    rw [isNm_iff.2 he] at this
    cases this
  · rw [defOf_some hk h]
    refine ⟨fun h => (by cases h), fun hh => ?_⟩
    exact absurd (isNm_iff.1 hp) (hh _ (List.getElem_mem hk))

theorem lawB : LawfulBEq ByteArray where
  eq_of_beq := fun {a b} h => by rw [beq_toListBytes, beq_iff_eq] at h; exact nm_inj h
  rfl := fun {a} => by rw [beq_toListBytes, beq_iff_eq]
theorem nodup_le {l1 l2 : List ByteArray} (h : l1.Pairwise (· ≠ ·)) (hs : ∀ x ∈ l1, x ∈ l2) : l1.length ≤ l2.length := by
  haveI := lawB
  induction l1 generalizing l2 with
  | nil => exact Nat.zero_le _
  | cons x r ih =>
    rw [List.pairwise_cons] at h
    have hx := hs x (by simp)
    have := ih (l2 := l2.erase x) h.2 (fun y hy => (List.mem_erase_of_ne (fun e => h.1 y hy e.symm)).2 (hs y (by simp [hy])))
    rw [List.length_erase_of_mem hx] at this
    have : 0 < l2.length := List.length_pos_of_mem hx
    simp
    omega
theorem nodup_eq {l1 l2 : List ByteArray} (h : l1.Pairwise (· ≠ ·)) (hs : ∀ x ∈ l1, x ∈ l2) (hl : l2.length ≤ l1.length) : ∀ x ∈ l2, x ∈ l1 := by
  intro y hy
  by_cases hm : y ∈ l1
  · exact hm
  · have := nodup_le (l1 := y :: l1) (l2 := l2) (List.pairwise_cons.2 ⟨fun z hz e => hm (e ▸ hz), h⟩) (fun x hx => by
      rcases List.mem_cons.1 hx with rfl | hx
      · exact hy
      · exact hs x hx)
    simp at this
    omega
theorem nodup_names {ds : List D} (h : NoDup ds) : (ds.map D.name).Pairwise (· ≠ ·) := List.pairwise_map.2 h
/-- Two lists have the same definitions. -/
def Same (ds es : List D) : Prop := ∀ d, d ∈ ds ↔ d ∈ es
theorem same_len {ds es : List D} (hd : NoDup ds) (he : NoDup es) (h : Same ds es) : ds.length = es.length := by
  have h1 := nodup_le (l2 := es.map D.name) (nodup_names hd) (fun x hx => by
    obtain ⟨d, hd, rfl⟩ := List.mem_map.1 hx
    exact List.mem_map_of_mem ((h d).1 hd))
  have h2 := nodup_le (l2 := ds.map D.name) (nodup_names he) (fun x hx => by
    obtain ⟨d, hd, rfl⟩ := List.mem_map.1 hx
    exact List.mem_map_of_mem ((h d).2 hd))
  simp at h1 h2
  omega
theorem same_of {ds es : List D} (hd : NoDup ds) (he : NoDup es) (hl : ds.length = es.length) (hs : ∀ d ∈ ds, d ∈ es) : Same ds es := by
  intro e
  refine ⟨hs e, fun hm => ?_⟩
  have := nodup_eq (l2 := es.map D.name) (nodup_names hd) (fun x hx => by
    obtain ⟨d, hd, rfl⟩ := List.mem_map.1 hx
    exact List.mem_map_of_mem (hs d hd)) (by simp; omega) e.name (List.mem_map_of_mem hm)
  obtain ⟨d, hdm, hn⟩ := List.mem_map.1 this
  have h1 := (defOf_iff he (s := e.name)).2 ⟨hs d hdm, hn⟩
  have h2 := (defOf_iff he (s := e.name)).2 ⟨hm, rfl⟩
  rw [h1] at h2
  cases h2
  exact hdm
theorem mDiff_nil {ds es : List D} (hd : NoDup ds) (he : NoDup es) : mDiff ds es = [] ↔ Same ds es := by
  unfold mDiff
  rw [List.append_eq_nil_iff, List.append_eq_nil_iff]
  constructor
  · intro ⟨⟨h1, h2⟩, h3⟩
    have hsub : ∀ d ∈ ds, d ∈ es := by
      intro d hm
      have q1 := List.flatMap_eq_nil_iff.1 h1 d hm
      have q2 := List.flatMap_eq_nil_iff.1 h2 d hm
      cases hdf : defOf es d.name with
      | none => unfold dropF at q1; rw [hdf] at q1; cases q1
      | some e =>
        unfold turnF at q2; rw [hdf] at q2
        by_cases hv : e.val = d.val
        · obtain ⟨m1, m2⟩ := (defOf_iff he).1 hdf
          have : e = d := D_ext m2 hv
          subst this; exact m1
        · simp [hv] at q2
    have hnm : ∀ x ∈ es.map D.name, x ∈ ds.map D.name := by
      intro x hx
      obtain ⟨e, hm, rfl⟩ := List.mem_map.1 hx
      have q3 := List.flatMap_eq_nil_iff.1 h3 e hm
      cases hdf : defOf ds e.name with
      | none => unfold addF at q3; rw [hdf] at q3; cases q3
      | some d =>
        obtain ⟨m1, m2⟩ := (defOf_iff hd).1 hdf
        rw [← m2]
        exact List.mem_map_of_mem m1
    have l1 := nodup_le (nodup_names he) hnm
    have l2 := nodup_le (l2 := es.map D.name) (nodup_names hd) (fun x hx => by
      obtain ⟨d, hm, rfl⟩ := List.mem_map.1 hx
      exact List.mem_map_of_mem (hsub d hm))
    simp at l1 l2
    exact same_of hd he (by omega) hsub
  · intro h
    refine ⟨⟨List.flatMap_eq_nil_iff.2 fun d hm => ?_, List.flatMap_eq_nil_iff.2 fun d hm => ?_⟩, List.flatMap_eq_nil_iff.2 fun d hm => ?_⟩
    · have := (defOf_iff he (s := d.name)).2 ⟨(h d).1 hm, rfl⟩
      unfold dropF; rw [this]
    · have := (defOf_iff he (s := d.name)).2 ⟨(h d).1 hm, rfl⟩
      unfold turnF; rw [this]; simp
    · have := (defOf_iff hd (s := d.name)).2 ⟨(h d).2 hm, rfl⟩
      unfold addF; rw [this]
def mSame (ds es : List D) : Bool := vEnum ds && vEnum es && ((mDiff ds es).length == 0)
theorem vEnum_nodup {ds : List D} (h : vEnum ds = true) : NoDup ds := ((vEnum_iff ds).1 h).2.2
theorem mSame_iff {ds es : List D} : mSame ds es = true ↔ vEnum ds = true ∧ vEnum es = true ∧ Same ds es := by
  unfold mSame
  rw [Bool.and_eq_true, Bool.and_eq_true, beq_iff_eq]
  constructor
  · intro ⟨⟨h1, h2⟩, h3⟩
    exact ⟨h1, h2, (mDiff_nil (vEnum_nodup h1) (vEnum_nodup h2)).1 (List.eq_nil_of_length_eq_zero h3)⟩
  · intro ⟨h1, h2, h3⟩
    exact ⟨⟨h1, h2⟩, by rw [(mDiff_nil (vEnum_nodup h1) (vEnum_nodup h2)).2 h3]; rfl⟩
end Go.Proofs.YtiebdhbioccogaaGreatDoor

namespace Go.Proofs.YtiebdhbioccogaaGreatDoor
open Go.RowKit Go.Maps
set_option linter.unusedVariables false
set_option maxRecDepth 100000

/-- The names among the first k definitions that have the value v, the one at j left out. -/
def othTo (ds : List D) (v : Int) (j : Nat) : Nat → List ByteArray
  | 0 => []
  | k + 1 => othTo ds v j k ++ (match ds[k]? with | some d => if isVal v d && k != j then [d.name] else [] | none => [])
theorem othTo_succ (ds : List D) (v : Int) (j k : Nat) (h : k < ds.length) : othTo ds v j (k + 1) = othTo ds v j k ++ if isVal v ds[k] && k != j then [ds[k].name] else [] := by
  show othTo ds v j k ++ _ = _
  rw [List.getElem?_eq_getElem h]
theorem othTo_len (ds : List D) (v : Int) (j k : Nat) : (othTo ds v j k).length ≤ k := by
  induction k with
  | zero => exact Nat.le_refl _
  | succ k ih =>
    unfold othTo
    rw [List.length_append]
    have : (match ds[k]? with | some d => if isVal v d && k != j then [d.name] else [] | none => ([] : List ByteArray)).length ≤ 1 := by
      split
      · split <;> simp
      · simp
    omega
theorem othTo_in (ds : List D) (v : Int) (j k : Nat) : ∀ t ∈ othTo ds v j k, ∃ d ∈ ds, d.name = t := by
  induction k with
  | zero => intro t h; cases h
  | succ k ih =>
    intro t h
    unfold othTo at h
    rcases List.mem_append.1 h with h | h
    · exact ih t h
    · split at h
      · rename_i d e
        split at h
        · simp at h; exact ⟨d, List.mem_of_getElem? e, h.symm⟩
        · cases h
      · cases h
theorem othTo_first (ds : List D) (v : Int) (j : Nat) (hj : j < ds.length) (hn : noTo (isVal v) ds j) : othTo ds v j (j + 1) = [] := by
  have h0 : ∀ k, k ≤ j → othTo ds v j k = [] := by
    intro k
    induction k with
    | zero => intro _; rfl
    | succ k ih =>
      intro hk
      rw [othTo_succ ds v j k (by omega), ih (by omega), hn k (by omega) (by omega)]
      rfl
  rw [othTo_succ ds v j j hj, h0 j (Nat.le_refl _)]
  simp
/-- OtherNames of s. -/
def mOthers (ds : List D) (s : ByteArray) : List ByteArray :=
  if vEnum ds then (match ds[(fidx (isNm s) ds).toNat]? with | some d => if 0 ≤ fidx (isNm s) ds then othTo ds d.val (fidx (isVal d.val) ds).toNat ds.length else [] | none => []) else []
theorem mOthers_no {ds : List D} {s : ByteArray} (h : vEnum ds = false ∨ fidx (isNm s) ds < 0) : mOthers ds s = [] := by
  unfold mOthers
  rcases h with h | h
  · rw [h]; rfl
  · split
    · split
      · rw [if_neg (by omega)]
      · rfl
    · rfl
theorem mOthers_yes {ds : List D} {s : ByteArray} (hv : vEnum ds = true) (k : Nat) (hk : k < ds.length) (hx : fidx (isNm s) ds = k) (j : Nat) (hj : fidx (isVal ds[k].val) ds = j) : mOthers ds s = othTo ds ds[k].val j ds.length := by
  unfold mOthers
  rw [if_pos hv, hx]
  simp only [Int.toNat_natCast]
  rw [List.getElem?_eq_getElem hk]
  simp only []
  rw [if_pos (by omega), hj]
  rfl
theorem mOthers_ok {ds : List D} {s : ByteArray} (h : ∀ d ∈ ds, d.ok) : ∀ t ∈ mOthers ds s, t.size ≤ maxLen := by
  unfold mOthers
  split
  · split
    · split
      · intro t ht
        obtain ⟨d, hd, rfl⟩ := othTo_in _ _ _ _ t ht
        exact (h d hd).1
      · intro t ht; cases ht
    · intro t ht; cases ht
  · intro t ht; cases ht
theorem mOthers_len (ds : List D) (s : ByteArray) : (mOthers ds s).length ≤ 12 := by
  unfold mOthers
  split
  · rename_i hv
    have := vEnum_len hv
    split
    · split
      · exact Nat.le_trans (othTo_len _ _ _ _) (by omega)
      · simp
    · simp
  · simp

end Go.Proofs.YtiebdhbioccogaaGreatDoor

namespace Go.Proofs.YtiebdhbioccogaaGreatDoor
open Go.RowKit
set_option linter.unusedVariables false
set_option maxRecDepth 100000

/-! ### names, values and members: what the laws need -/
theorem name_idx {ds : List D} (hv : vEnum ds = true) (j : Nat) (hj : j < ds.length) : fidx (isNm ds[j].name) ds = (j : Int) :=
  fidx_some (fun i hi hij => by
    cases e : isNm ds[j].name ds[i]
    · rfl
    · exact absurd (names_apart hv i j hi hj (isNm_iff.1 e)) (by omega)) hj (isNm_iff.2 rfl)
theorem val_idx {ds : List D} {n : Int} {k : Nat} (hk : k < ds.length) (h : fidx (isVal n) ds = (k : Int)) : ds[k].val = n := by
  rcases fidx_cases (isVal n) ds with ⟨h1, _⟩ | ⟨j, hj, h1, hp, _⟩
  · omega
  · obtain rfl : j = k := by omega
    unfold isVal at hp; simpa using hp
theorem nm_idx {ds : List D} {s : ByteArray} {k : Nat} (hk : k < ds.length) (h : fidx (isNm s) ds = (k : Int)) : ds[k].name = s := by
  rcases fidx_cases (isNm s) ds with ⟨h1, _⟩ | ⟨j, hj, h1, hp, _⟩
  · omega
  · obtain rfl : j = k := by omega
    exact isNm_iff.1 hp
theorem mems_get (ds : List D) (i : Nat) (hi : i < (mems ds).length) : ∃ j, ∃ hj : j < ds.length, (mems ds)[i] = ds[j] ∧ fidx (isVal ds[j].val) ds = (j : Int) := by
  obtain ⟨j, hj, _, e, hm⟩ := memTo_mem ds _ (Nat.le_refl _) _ (List.getElem_mem hi)
  refine ⟨j, hj, e.symm, ?_⟩
  have h := mem_first ds j hj
  rw [show memAt ds j ds[j] = true by rw [e]; exact hm] at h
  simpa using h
theorem mems_has {ds : List D} (j : Nat) (hj : j < ds.length) (h : fidx (isVal ds[j].val) ds = (j : Int)) : ds[j] ∈ mems ds := by
  refine memTo_has ds ds.length (Nat.le_refl _) j hj hj ?_
  rw [← mem_first ds j hj, h]; simp
theorem mems_pair (ds : List D) (k : Nat) (hk : k ≤ ds.length) : (memTo ds k).Pairwise (fun a b => a.val ≠ b.val) := by
  induction k with
  | zero => exact List.Pairwise.nil
  | succ k ih =>
    rw [memTo_succ ds k (by omega), List.pairwise_append]
    refine ⟨ih (by omega), ?_, ?_⟩
    · split
      · exact List.pairwise_singleton _ _
      · exact List.Pairwise.nil
    · intro a ha b hb
      split at hb
      · rename_i hm
        simp at hb
        subst hb
        obtain ⟨i, hi, hik, rfl, _⟩ := memTo_mem ds k (by omega) a ha
        intro e
        rw [memAt_iff, decide_eq_true_eq] at hm
        rcases fidx_cases (isVal ds[k].val) (ds.take k) with ⟨h1, hn⟩ | ⟨m, hm1, h1, _⟩
        · have h3 := hn i (by simp; omega) (by simp; omega)
          rw [List.getElem_take] at h3
          unfold isVal at h3
          simp at h3
          exact h3 e
        · omega
      · cases hb
theorem rank_mem (ds : List D) (i : Nat) (hi : i < (mems ds).length) : fidx (isVal (mems ds)[i].val) (mems ds) = (i : Int) := by
  refine fidx_some (fun m hm hmi => ?_) hi (by unfold isVal; simp)
  have := (List.pairwise_iff_getElem.1 (mems_pair ds ds.length (Nat.le_refl _))) m i hm hi hmi
  unfold isVal
  exact beq_eq_false_iff_ne.2 this
theorem rank_get {ds : List D} {v : Int} (j : Nat) (hj : j < ds.length) (hf : fidx (isVal v) ds = (j : Int)) (r : Nat) (hr : r < (mems ds).length) (h : fidx (isVal v) (mems ds) = (r : Int)) : (mems ds)[r] = ds[j] := by
  obtain ⟨j', hj', e, hf'⟩ := mems_get ds r hr
  have e1 := val_idx hj hf
  have e2 : (mems ds)[r].val = v := val_idx (ds := mems ds) hr h
  rw [e] at e2
  rw [e2, hf] at hf'
  obtain rfl : j = j' := by omega
  exact e

/-! ### as many as there are names -/
theorem one_zero {ms : List D} {v : Int} (h : ∀ m ∈ ms, m.val ≠ v) : (ms.map fun m => if m.val = v then 1 else 0).sum = 0 := by
  induction ms with
  | nil => rfl
  | cons m ms ih =>
    rw [List.map_cons, List.sum_cons, ih (fun x hx => h x (List.mem_cons_of_mem _ hx)), if_neg (h m (List.mem_cons_self))]
theorem one_one {ms : List D} {v : Int} (hp : ms.Pairwise (fun a b => a.val ≠ b.val)) (h : ∃ m ∈ ms, m.val = v) : (ms.map fun m => if m.val = v then 1 else 0).sum = 1 := by
  induction ms with
  | nil => obtain ⟨m, hm, _⟩ := h; cases hm
  | cons m ms ih =>
    rw [List.pairwise_cons] at hp
    rw [List.map_cons, List.sum_cons]
    by_cases e : m.val = v
    · rw [if_pos e, one_zero (fun x hx hxe => hp.1 x hx (e.trans hxe.symm))]
    · rw [if_neg e, ih hp.2 (by
        obtain ⟨x, hx, hxe⟩ := h
        rcases List.mem_cons.1 hx with rfl | hx
        · exact absurd hxe e
        · exact ⟨x, hx, hxe⟩)]
theorem sum_add (ms : List D) (f g : D → Nat) : (ms.map fun m => f m + g m).sum = (ms.map f).sum + (ms.map g).sum := by
  induction ms with
  | nil => rfl
  | cons m ms ih => simp only [List.map_cons, List.sum_cons, ih]; omega
theorem count_all {ms : List D} (hp : ms.Pairwise (fun a b => a.val ≠ b.val)) (l : List D) (h : ∀ d ∈ l, ∃ m ∈ ms, m.val = d.val) : (ms.map fun m => l.countP (isVal m.val)).sum = l.length := by
  induction l with
  | nil =>
    simp only [List.countP_nil, List.length_nil]
    clear hp h
    induction ms with
    | nil => rfl
    | cons m ms ih => rw [List.map_cons, List.sum_cons, ih]
  | cons d l ih =>
    have e : (fun m : D => (d :: l).countP (isVal m.val)) = fun m => l.countP (isVal m.val) + if m.val = d.val then 1 else 0 := by
      funext m
      rw [List.countP_cons]
      congr 1
      by_cases e : m.val = d.val
      · rw [if_pos e, if_pos (by unfold isVal; simp [e])]
      · rw [if_neg e, if_neg (by unfold isVal; simp; exact fun h => e h.symm)]
    rw [e, sum_add, ih (fun x hx => h x (List.mem_cons_of_mem _ hx)), one_one hp (h d (List.mem_cons_self)), List.length_cons]
theorem othTo_count (ds : List D) (v : Int) (j : Nat) (hj : j < ds.length) (hjv : isVal v ds[j] = true) (k : Nat) (hk : k ≤ ds.length) : (othTo ds v j k).length + (if j < k then 1 else 0) = (ds.take k).countP (isVal v) := by
  induction k with
  | zero => simp [othTo]
  | succ k ih =>
    have ih := ih (by omega)
    rw [othTo_succ ds v j k (by omega), List.take_succ_eq_append_getElem (by omega), List.countP_append, ← ih, List.length_append]
    by_cases e : k = j
    · subst e
      rw [if_pos (show k < k + 1 by omega), if_neg (show ¬ k < k by omega), hjv]
      simp [hjv]
    · have e2 : (if j < k + 1 then 1 else 0) = if j < k then 1 else 0 := by
        by_cases h : j < k
        · rw [if_pos h, if_pos (by omega)]
        · rw [if_neg h, if_neg (by omega)]
      rw [e2]
      have e3 : (k != j) = true := by simpa using e
      rw [e3]
      cases hv : isVal v ds[k] <;> simp [hv] <;> omega
/-- How many other names the first k members have. -/
def othSum (ds : List D) (k : Nat) : Nat := (((mems ds).take k).map fun m => (mOthers ds m.name).length).sum
theorem othSum_succ (ds : List D) (k : Nat) (h : k < (mems ds).length) : othSum ds (k + 1) = othSum ds k + (mOthers ds (mems ds)[k].name).length := by
  unfold othSum
  rw [List.take_succ_eq_append_getElem h, List.map_append, List.sum_append]
  simp
theorem othSum_all {ds : List D} (hv : vEnum ds = true) : (mems ds).length + othSum ds (mems ds).length = ds.length := by
  have h1 := count_all (mems_pair ds ds.length (Nat.le_refl _)) ds (fun d hd => by
    obtain ⟨k, hk, rfl⟩ := List.mem_iff_getElem.1 hd
    obtain ⟨j, hj, _, e, hm, _⟩ := first_of k hk
    exact ⟨ds[j], memTo_has ds ds.length (Nat.le_refl _) j hj hj hm, e⟩)
  have h2 : ((mems ds).map fun m => ds.countP (isVal m.val)) = (mems ds).map fun m => (mOthers ds m.name).length + 1 := by
    refine List.map_congr_left fun m hm => ?_
    obtain ⟨i, hi, rfl⟩ := List.mem_iff_getElem.1 hm
    obtain ⟨j, hj, e, hf⟩ := mems_get ds i hi
    rw [e, mOthers_yes hv j hj (name_idx hv j hj) j hf]
    have := othTo_count ds ds[j].val j hj (by unfold isVal; simp) ds.length (Nat.le_refl _)
    rw [if_pos hj, List.take_of_length_le (Nat.le_refl _)] at this
    exact this.symm
  have h3 : ((mems ds).map fun m => (mOthers ds m.name).length + 1).sum = othSum ds (mems ds).length + (mems ds).length := by
    rw [sum_add]
    unfold othSum
    rw [List.take_of_length_le (Nat.le_refl _)]
    congr 1
    generalize mems ds = ms
    induction ms with
    | nil => rfl
    | cons m ms ih => rw [List.map_cons, List.sum_cons, ih, List.length_cons]; omega
  have h4 : ((mems ds).map fun m => ds.countP (isVal m.val)).sum = ds.length := h1
  rw [h2, h3] at h4
  omega
/-- An other name is a name with the value, and no member. -/
theorem othTo_mem (ds : List D) (v : Int) (j k : Nat) (hk : k ≤ ds.length) : ∀ t ∈ othTo ds v j k, ∃ i, ∃ hi : i < ds.length, ds[i].name = t ∧ ds[i].val = v ∧ i ≠ j := by
  induction k with
  | zero => intro t h; cases h
  | succ k ih =>
    intro t h
    rw [othTo_succ ds v j k (by omega)] at h
    rcases List.mem_append.1 h with h | h
    · exact ih (by omega) t h
    · split at h
      · rename_i hc
        simp at h
        simp [isVal] at hc
        exact ⟨k, by omega, h.symm, hc.1, hc.2⟩
      · cases h
end Go.Proofs.YtiebdhbioccogaaGreatDoor

namespace Go.Proofs.YtiebdhbioccogaaGreatDoor
open Go.RowKit
set_option linter.unusedVariables false
set_option maxRecDepth 100000

/-- What a second enumeration adds. -/
def newF (a : List D) (d : D) : List D := match defOf a d.name with | none => [d] | some _ => []
/-- A name with two values. -/
def clash (a : List D) (d : D) : Bool := match defOf a d.name with | none => false | some e => e.val != d.val
def mMerge (a b : List D) : Option (List D) := if vEnum a && vEnum b then (if b.any (clash a) then none else chkO (a ++ b.flatMap (newF a))) else none
theorem newF_yes {a : List D} {d : D} (h : fidx (isNm d.name) a < 0) : newF a d = [d] := by unfold newF; rw [defOf_none h]
theorem newF_no {a : List D} {d : D} {k : Nat} (hk : k < a.length) (h : fidx (isNm d.name) a = (k : Int)) : newF a d = [] := by unfold newF; rw [defOf_some hk h]
theorem clash_none {a : List D} {d : D} (h : fidx (isNm d.name) a < 0) : clash a d = false := by unfold clash; rw [defOf_none h]
theorem clash_some {a : List D} {d : D} {k : Nat} (hk : k < a.length) (h : fidx (isNm d.name) a = (k : Int)) : clash a d = (a[k].val != d.val) := by unfold clash; rw [defOf_some hk h]
theorem newF_le (a : List D) (d : D) : (newF a d).length ≤ 1 := by unfold newF; split <;> simp
theorem newF_mem {a : List D} {d x : D} (h : x ∈ newF a d) : x = d := by unfold newF at h; split at h; simpa using h; cases h
theorem mMerge_no {a b : List D} (h : vEnum a = false ∨ vEnum b = false) : mMerge a b = none := by
  unfold mMerge
  rcases h with h | h
  · rw [h]; rfl
  · rw [h, Bool.and_false]; rfl
theorem mMerge_clash {a b : List D} {d : D} (hd : d ∈ b) (h : clash a d = true) : mMerge a b = none := by
  unfold mMerge
  split
  · rw [if_pos (List.any_eq_true.2 ⟨d, hd, h⟩)]
  · rfl
theorem mMerge_yes {a b : List D} (ha : vEnum a = true) (hb : vEnum b = true) (h : ∀ i (hi : i < b.length), i < b.length → clash a b[i] = false) : mMerge a b = chkO (a ++ b.flatMap (newF a)) := by
  unfold mMerge
  rw [ha, hb, Bool.and_self, if_pos rfl, if_neg ?_]
  rw [List.any_eq_true]
  intro ⟨d, hd, hc⟩
  obtain ⟨i, hi, rfl⟩ := List.mem_iff_getElem.1 hd
  rw [h i hi hi] at hc
  cases hc
theorem mMerge_len (a b : List D) : ((mMerge a b).getD []).length ≤ 12 := by
  unfold mMerge
  split
  · split
    · exact Nat.zero_le _
    · exact chkO_len _
  · exact Nat.zero_le _
theorem mMerge_mem {a b : List D} {x : D} (h : x ∈ (mMerge a b).getD []) : x ∈ a ∨ x ∈ b := by
  unfold mMerge at h
  split at h
  · split at h
    · cases h
    · rcases List.mem_append.1 (chkO_mem h) with h | h
      · exact .inl h
      · obtain ⟨d, hd, hx⟩ := List.mem_flatMap.1 h
        rw [newF_mem hx]; exact .inr hd
  · cases h
theorem merge_ok {a b : List D} (ha : ∀ d ∈ a, d.ok) (hb : ∀ d ∈ b, d.ok) : ∀ x ∈ a ++ b.flatMap (newF a), x.ok := by
  intro x hx
  rcases List.mem_append.1 hx with h | h
  · exact ha x h
  · obtain ⟨d, hd, hx⟩ := List.mem_flatMap.1 h
    rw [newF_mem hx]; exact hb d hd
theorem flat_app (xs ys : List D) : flat (xs ++ ys) = flat xs ++ flat ys := by unfold flat; rw [List.flatMap_append]
end Go.Proofs.YtiebdhbioccogaaGreatDoor

namespace Go.Proofs.YtiebdhbioccogaaGreatDoor
open Go.RowKit
set_option linter.unusedVariables false
set_option maxRecDepth 100000

/-- The first definition with a value. -/
def valOf (b : List D) (v : Int) : Option D := if fidx (isVal v) b < 0 then none else b[(fidx (isVal v) b).toNat]?
theorem valOf_none {b : List D} {v : Int} (h : fidx (isVal v) b < 0) : valOf b v = none := by unfold valOf; rw [if_pos h]
theorem valOf_some {b : List D} {v : Int} {k : Nat} (hk : k < b.length) (h : fidx (isVal v) b = (k : Int)) : valOf b v = some b[k] := by
  unfold valOf
  rw [h, if_neg (show ¬ ((k : Int) < 0) by omega)]
  simp [hk]
/-- What a wrote as v is read by b. -/
def readV (a b : List D) (v : Int) : Bool := match valOf b v with | none => false | some e => (match defOf a e.name with | none => false | some x => x.val == v)
def mReads (a b : List D) : Bool := vEnum a && vEnum b && a.all (fun d => readV a b d.val)
theorem mReads_no {a b : List D} (h : vEnum a = false ∨ vEnum b = false) : mReads a b = false := by
  unfold mReads
  rcases h with h | h
  · rw [h]; rfl
  · rw [h, Bool.and_false]; rfl
theorem mReads_bad {a b : List D} {d : D} (hd : d ∈ a) (h : readV a b d.val = false) : mReads a b = false := by
  unfold mReads
  have : a.all (fun d => readV a b d.val) = false := by
    rw [List.all_eq_false]
    exact ⟨d, hd, by rw [h]; simp⟩
  rw [this, Bool.and_false]
theorem mReads_all {a b : List D} (ha : vEnum a = true) (hb : vEnum b = true) (h : ∀ d ∈ a, readV a b d.val = true) : mReads a b = true := by
  unfold mReads
  rw [ha, hb, List.all_eq_true.2 h]; rfl
theorem readV_none {a b : List D} {v : Int} (h : fidx (isVal v) b < 0) : readV a b v = false := by unfold readV; rw [valOf_none h]
theorem readV_no {a b : List D} {v : Int} {k : Nat} (hk : k < b.length) (h : fidx (isVal v) b = (k : Int)) (h2 : fidx (isNm b[k].name) a < 0) : readV a b v = false := by
  unfold readV; rw [valOf_some hk h]; simp only; rw [defOf_none h2]
theorem readV_at {a b : List D} {v : Int} {k j : Nat} (hk : k < b.length) (h : fidx (isVal v) b = (k : Int)) (hj : j < a.length) (h2 : fidx (isNm b[k].name) a = (j : Int)) : readV a b v = (a[j].val == v) := by
  unfold readV; rw [valOf_some hk h]; simp only; rw [defOf_some hj h2]
theorem readV_any {a b : List D} (hn : NoDup a) {v : Int} {k : Nat} (hk : k < b.length) (h : fidx (isVal v) b = (k : Int)) : readV a b v = a.any (isD ⟨b[k].name, v⟩) := by
  rw [Bool.eq_iff_iff, any_isD]
  unfold readV
  rw [valOf_some hk h]
  simp only
  cases hd : defOf a b[k].name with
  | none =>
    simp only [Bool.false_eq_true, false_iff]
    intro hm
    exact defOf_no.1 hd _ hm rfl
  | some x =>
    obtain ⟨h1, h2⟩ := (defOf_iff hn).1 hd
    simp only [beq_iff_eq]
    constructor
    · intro e
      have : x = ⟨b[k].name, v⟩ := D_ext h2 e
      rw [← this]; exact h1
    · intro hm
      have := (defOf_iff hn (s := b[k].name)).2 ⟨hm, rfl⟩
      rw [hd] at this
      cases this; rfl
theorem memTo_hasR (ds : List D) (j : Nat) (hj : j < ds.length) (hm : memAt ds j ds[j] = true) (k : Nat) (hk : j < k) (hl : k ≤ ds.length) : ds[j] ∈ memTo ds k := by
  induction k with
  | zero => omega
  | succ k ih =>
    rw [memTo_succ ds k (by omega)]
    by_cases e : j = k
    · subst e; simp [hm]
    · exact List.mem_append.2 (.inl (ih (by omega) (by omega)))
theorem mems_cover (ds : List D) (d : D) (hd : d ∈ ds) : ∃ m ∈ mems ds, m.val = d.val := by
  obtain ⟨i, hi, rfl⟩ := List.mem_iff_getElem.1 hd
  rcases fidx_cases (isVal ds[i].val) ds with ⟨h, hno⟩ | ⟨j, hj, h, hp, _⟩
  · have := hno i hi hi
    unfold isVal at this
    simp at this
  · have hv : ds[j].val = ds[i].val := by unfold isVal at hp; simpa using hp
    have hm : memAt ds j ds[j] = true := by rw [← mem_first ds j hj, hv, h]; simp
    exact ⟨ds[j], memTo_hasR ds j hj hm _ hj (Nat.le_refl _), hv⟩
end Go.Proofs.YtiebdhbioccogaaGreatDoor

namespace Go.Proofs.YtiebdhbioccogaaGreatDoor
open Go.RowKit
set_option linter.unusedVariables false
set_option maxRecDepth 100000

/-! ### definitions by their values -/
/-- How many of the first have at most the value x. -/
def pos (x : Int) : List D → Nat
  | [] => 0
  | d :: r => if d.val ≤ x then pos x r + 1 else 0
theorem pos_le (x : Int) (l : List D) : pos x l ≤ l.length := by
  induction l with
  | nil => exact Nat.le_refl _
  | cons d r ih => unfold pos; split <;> simp <;> omega
theorem pos_ge {x : Int} {l : List D} {k : Nat} (hk : k ≤ l.length) (h : ∀ i (hi : i < l.length), i < k → l[i].val ≤ x) : k ≤ pos x l := by
  induction l generalizing k with
  | nil => simp at hk; subst hk; exact Nat.zero_le _
  | cons d r ih =>
    cases k with
    | zero => exact Nat.zero_le _
    | succ k =>
      have h0 := h 0 (by simp) (by omega)
      simp at h0
      unfold pos
      rw [if_pos h0]
      have := ih (k := k) (by simpa using hk) (fun i hi hik => by have := h (i + 1) (by simpa using hi) (by omega); simpa using this)
      omega
theorem pos_at {x : Int} {l : List D} {k : Nat} (hk : k < l.length) (h : x < l[k].val) : pos x l ≤ k := by
  induction l generalizing k with
  | nil => simp at hk
  | cons d r ih =>
    unfold pos
    split
    · rename_i hd
      cases k with
      | zero => simp at h; omega
      | succ k => have := ih (k := k) (by simpa using hk) (by simpa using h); omega
    · exact Nat.zero_le _
def sortedV (l : List D) : Prop := l.Pairwise fun a b => a.val ≤ b.val
/-- l with d behind all that have at most its value. -/
def insV (l : List D) (d : D) : List D := l.take (pos d.val l) ++ (d :: l.drop (pos d.val l))
theorem insV_length (l : List D) (d : D) : (insV l d).length = l.length + 1 := by
  have := pos_le d.val l
  simp [insV]; omega
theorem insV_mem {l : List D} {d x : D} : x ∈ insV l d ↔ x = d ∨ x ∈ l := by
  have : x ∈ l ↔ x ∈ l.take (pos d.val l) ∨ x ∈ l.drop (pos d.val l) := by rw [← List.mem_append, List.take_append_drop]
  rw [this]
  simp only [insV, List.mem_append, List.mem_cons]
  constructor
  · rintro (h | h | h)
    · exact .inr (.inl h)
    · exact .inl h
    · exact .inr (.inr h)
  · rintro (h | h | h)
    · exact .inr (.inl h)
    · exact .inl h
    · exact .inr (.inr h)
theorem pos_split (x : Int) (l : List D) : (∀ a ∈ l.take (pos x l), a.val ≤ x) ∧ (sortedV l → ∀ b ∈ l.drop (pos x l), x < b.val) := by
  induction l with
  | nil => simp [pos]
  | cons d r ih =>
    unfold pos
    split
    · rename_i hd
      refine ⟨fun a ha => ?_, fun hs b hb => ?_⟩
      · simp only [List.take_succ_cons, List.mem_cons] at ha
        rcases ha with rfl | ha
        · exact hd
        · exact ih.1 a ha
      · simp only [List.drop_succ_cons] at hb
        exact ih.2 (List.pairwise_cons.1 hs).2 b hb
    · rename_i hd
      refine ⟨fun a ha => by simp at ha, fun hs b hb => ?_⟩
      simp only [List.drop_zero, List.mem_cons] at hb
      rcases hb with rfl | hb
      · omega
      · have := (List.pairwise_cons.1 hs).1 b hb; omega
theorem insV_sorted {l : List D} (d : D) (h : sortedV l) : sortedV (insV l d) := by
  have hp := pos_split d.val l
  have h2 := hp.2 h
  unfold sortedV insV at *
  have h3 : (l.take (pos d.val l) ++ l.drop (pos d.val l)).Pairwise fun a b => a.val ≤ b.val := by rw [List.take_append_drop]; exact h
  rw [List.pairwise_append] at h3 ⊢
  refine ⟨h3.1, List.pairwise_cons.2 ⟨fun b hb => by have := h2 b hb; omega, h3.2.1⟩, fun a ha b hb => ?_⟩
  rcases List.mem_cons.1 hb with rfl | hb
  · exact hp.1 a ha
  · exact h3.2.2 a ha b hb
def srt (ds : List D) : List D := ds.foldl insV []
theorem srt_take (ds : List D) (k : Nat) (h : k < ds.length) : srt (ds.take (k + 1)) = insV (srt (ds.take k)) ds[k] := by
  unfold srt
  rw [List.take_succ_eq_append_getElem h, List.foldl_append]; rfl
theorem srt_length (ds : List D) : (srt ds).length = ds.length := by
  have : ∀ (l acc : List D), (l.foldl insV acc).length = acc.length + l.length := by
    intro l
    induction l with
    | nil => intro acc; rfl
    | cons d r ih => intro acc; rw [List.foldl_cons, ih, insV_length]; simp; omega
  simpa [srt] using this ds []
theorem srt_mem {ds : List D} {x : D} : x ∈ srt ds ↔ x ∈ ds := by
  have : ∀ (l acc : List D), x ∈ l.foldl insV acc ↔ x ∈ acc ∨ x ∈ l := by
    intro l
    induction l with
    | nil => intro acc; simp
    | cons d r ih =>
      intro acc
      rw [List.foldl_cons, ih, insV_mem, List.mem_cons]
      constructor
      · rintro ((h | h) | h)
        · exact .inr (.inl h)
        · exact .inl h
        · exact .inr (.inr h)
      · rintro (h | h | h)
        · exact .inl (.inr h)
        · exact .inl (.inl h)
        · exact .inr h
  simpa [srt] using this ds []
theorem srt_sorted (ds : List D) : sortedV (srt ds) := by
  have : ∀ (l acc : List D), sortedV acc → sortedV (l.foldl insV acc) := by
    intro l
    induction l with
    | nil => intro acc h; exact h
    | cons d r ih => intro acc h; exact ih _ (insV_sorted d h)
  exact this ds [] List.Pairwise.nil
end Go.Proofs.YtiebdhbioccogaaGreatDoor

/-
Plain facts on what AddDef, DropDef, RenameDef and MergeEnums make, as their laws ask for them. No program in sight.
-/
namespace Go.Proofs.YtiebdhbioccogaaGreatDoor
set_option linter.unusedVariables false
set_option maxRecDepth 100000

theorem chkO_is {ds es : List D} (h : chkO ds = some es) : es = ds ∧ vEnum es = true := by
  unfold chkO at h
  cases hv : vEnum ds
  · rw [hv] at h; cases h
  · rw [hv] at h; cases h; exact ⟨rfl, hv⟩
/-- A definition that is there is found by its name. -/
theorem idx_mem {ds : List D} (hv : vEnum ds = true) {d : D} (hd : d ∈ ds) : ∃ i, ∃ hi : i < ds.length, fidx (isNm d.name) ds = (i : Int) ∧ ds[i] = d := by
  obtain ⟨i, hi, rfl⟩ := List.mem_iff_getElem.1 hd
  exact ⟨i, hi, name_idx hv i hi, rfl⟩
theorem idx_no {ds : List D} {s : ByteArray} (h : ∀ d ∈ ds, d.name ≠ s) : fidx (isNm s) ds < 0 := by
  rcases fidx_cases (isNm s) ds with ⟨h1, _⟩ | ⟨k, hk, h1, hp, _⟩
  · omega
  · exact absurd (isNm_iff.1 hp) (h _ (List.getElem_mem hk))

structure AddL (ds : List D) (d : D) (es : List D) : Prop where
  ve : vEnum es = true
  len : es.length = ds.length + 1
  idx : fidx (isNm d.name) es = (ds.length : Int)
  at_ : ∀ h : ds.length < es.length, es[ds.length] = d
  ers : ers es ds.length = ds
theorem add_law {ds es : List D} {d : D} (h : mAdd ds d = some es) : AddL ds d es := by
  unfold mAdd at h
  split at h
  · obtain ⟨rfl, hv⟩ := chkO_is h
    have hl : ds.length < (ds ++ [d]).length := by simp
    have ha : (ds ++ [d])[ds.length] = d := by simp
    have hi := name_idx hv ds.length hl
    rw [ha] at hi
    exact ⟨hv, by simp, hi, fun _ => ha, by unfold Go.Proofs.YtiebdhbioccogaaGreatDoor.ers; simp⟩
  · cases h

theorem ers_iff {ds : List D} (hn : NoDup ds) {k : Nat} (hk : k < ds.length) (x : D) : x ∈ ers ds k ↔ x ∈ ds ∧ x.name ≠ ds[k].name := by
  unfold ers
  constructor
  · intro h
    rcases List.mem_append.1 h with h | h
    · obtain ⟨i, hi, rfl⟩ := List.mem_iff_getElem.1 h
      have hi2 : i < k ∧ i < ds.length := by rw [List.length_take] at hi; omega
      rw [List.getElem_take]
      refine ⟨List.getElem_mem _, fun e => ?_⟩
      have := nodup_inj hn hi2.2 hk e
      omega
    · obtain ⟨i, hi, rfl⟩ := List.mem_iff_getElem.1 h
      rw [List.length_drop] at hi
      rw [List.getElem_drop]
      refine ⟨List.getElem_mem _, fun e => ?_⟩
      have := nodup_inj hn (by omega) hk e
      omega
  · intro ⟨h, hne⟩
    obtain ⟨i, hi, rfl⟩ := List.mem_iff_getElem.1 h
    rcases Nat.lt_trichotomy i k with hik | rfl | hik
    · exact List.mem_append.2 (.inl (List.mem_iff_getElem.2 ⟨i, by simp; omega, by simp⟩))
    · exact absurd rfl hne
    · refine List.mem_append.2 (.inr (List.mem_iff_getElem.2 ⟨i - (k + 1), by simp; omega, ?_⟩))
      rw [List.getElem_drop]
      congr 1
      omega

structure DropL (ds : List D) (s : ByteArray) (es : List D) : Prop where
  ve : vEnum es = true
  len : es.length + 1 = ds.length
  no : ∀ j (hj : j < ds.length), ds[j].name = s → fidx (isNm ds[j].name) es < 0
  yes : ∀ j (hj : j < ds.length), ds[j].name ≠ s → ∃ i, ∃ hi : i < es.length, fidx (isNm ds[j].name) es = (i : Int) ∧ es[i].val = ds[j].val
theorem drop_law {ds es : List D} {s : ByteArray} (h : mDrop ds s = some es) : DropL ds s es := by
  unfold mDrop at h
  split at h
  · rename_i hv
    split at h
    · cases h
    · rename_i hx
      rcases fidx_cases (isNm s) ds with ⟨h1, _⟩ | ⟨k, hk, h1, hp, _⟩
      · omega
      · rw [h1] at h
        simp at h
        subst h
        have hs : ds[k].name = s := isNm_iff.1 hp
        have hn := vEnum_nodup hv
        refine ⟨vEnum_ers hv k, by rw [ers_len ds k hk]; omega, fun j hj e => idx_no fun d hd e2 => ?_, fun j hj hne => ?_⟩
        · have := ((ers_iff hn hk d).1 hd).2
          rw [hs] at this
          exact this (e2.trans e)
        · obtain ⟨i, hi, h2, h3⟩ := idx_mem (vEnum_ers hv k) ((ers_iff hn hk ds[j]).2 ⟨List.getElem_mem hj, by rw [hs]; exact hne⟩)
          exact ⟨i, hi, h2, by rw [h3]⟩
  · cases h

structure RenL (ds : List D) (s to : ByteArray) (es : List D) (k : Nat) : Prop where
  vd : vEnum ds = true
  ve : vEnum es = true
  lt : k < ds.length
  lt2 : k < es.length
  idx : fidx (isNm s) ds = (k : Int)
  idx2 : fidx (isNm to) es = (k : Int)
  val : ∀ (h : k < ds.length) (h2 : k < es.length), es[k].val = ds[k].val
  back : ∀ (h2 : k < es.length), rep es k [⟨s, es[k].val⟩] = ds
theorem rename_law {ds es : List D} {s to : ByteArray} (h : mRename ds s to = some es) : ∃ k, RenL ds s to es k := by
  cases hv : vEnum ds
  · rw [mRename_no (.inl hv)] at h; cases h
  · rcases fidx_cases (isNm s) ds with ⟨h1, _⟩ | ⟨k, hk, h1, hp, _⟩
    · rw [mRename_no (.inr (by omega))] at h; cases h
    · rw [mRename_yes hv hk h1] at h
      obtain ⟨rfl, hve⟩ := chkO_is h
      have hs : ds[k].name = s := isNm_iff.1 hp
      rw [← rep_set ds k hk] at *
      have hl : k < (ds.set k ⟨to, ds[k].val⟩).length := by simpa using hk
      have ha : (ds.set k (⟨to, ds[k].val⟩ : D))[k] = ⟨to, ds[k].val⟩ := by simp
      have hi := name_idx hve k hl
      rw [ha] at hi
      refine ⟨k, hv, hve, hk, hl, h1, hi, fun _ _ => by rw [ha], fun _ => ?_⟩
      rw [ha, ← rep_set _ k hl, List.set_set]
      have : (⟨s, ds[k].val⟩ : D) = ds[k] := by rw [← hs]
      rw [this, List.set_getElem_self]

/-! ### merging -/
theorem newFs (a b : List D) : b.flatMap (newF a) = b.filter fun d => (defOf a d.name).isNone := by
  induction b with
  | nil => rfl
  | cons d r ih =>
    rw [List.flatMap_cons, ih, List.filter_cons]
    unfold newF
    cases defOf a d.name <;> simp
theorem nodup_map {ds : List D} : NoDup ds ↔ (ds.map D.name).Pairwise (· ≠ ·) := by unfold NoDup; rw [List.pairwise_map]
theorem merge_nodup {a b : List D} (ha : NoDup a) (hb : NoDup b) : NoDup (a ++ b.flatMap (newF a)) := by
  rw [newFs]
  unfold NoDup
  rw [List.pairwise_append]
  refine ⟨ha, hb.sublist List.filter_sublist, fun x hx y hy e => ?_⟩
  have h2 := (List.mem_filter.1 hy).2
  have h3 : defOf a y.name = none := by simpa using h2
  exact defOf_no.1 h3 x hx e
theorem clash_iff {a : List D} (ha : NoDup a) {d : D} : clash a d = true ↔ ∃ e ∈ a, e.name = d.name ∧ e.val ≠ d.val := by
  unfold clash
  cases h : defOf a d.name with
  | none =>
    constructor
    · intro h; cases h
    · intro ⟨e, he, hn, _⟩; exact absurd hn (defOf_no.1 h e he)
  | some e =>
    obtain ⟨h1, h2⟩ := (defOf_iff ha).1 h
    show (e.val != d.val) = true ↔ _
    rw [bne_iff_ne]
    constructor
    · intro hv; exact ⟨e, h1, h2, hv⟩
    · intro ⟨e', h1', h2', hv⟩
      have := (defOf_iff ha).2 ⟨h1', h2'⟩
      rw [h] at this
      cases this
      exact hv
theorem merge_mem {a b : List D} (ha : NoDup a) (hc : b.any (clash a) = false) (x : D) : x ∈ a ++ b.flatMap (newF a) ↔ x ∈ a ∨ x ∈ b := by
  rw [newFs, List.mem_append, List.mem_filter]
  constructor
  · rintro (h | ⟨h, _⟩)
    · exact .inl h
    · exact .inr h
  · rintro (h | h)
    · exact .inl h
    · cases hd : defOf a x.name with
      | none => exact .inr ⟨h, rfl⟩
      | some e =>
        obtain ⟨h1, h2⟩ := (defOf_iff ha).1 hd
        have hv : e.val = x.val := by
          by_cases he : e.val = x.val
          · exact he
          · have := List.any_eq_false.1 hc x h
            exact absurd ((clash_iff ha).2 ⟨e, h1, h2, he⟩) (by simpa using this)
        exact .inl (by rw [← D_ext h2 hv]; exact h1)
theorem vEnum_same {ds es : List D} (hv : vEnum ds = true) (hn : NoDup es) (h : Same es ds) : vEnum es = true := by
  obtain ⟨h1, h2, h3⟩ := (vEnum_iff ds).1 hv
  exact (vEnum_iff es).2 ⟨by rw [same_len hn h3 h]; exact h1, fun d hd => h2 d ((h d).1 hd), hn⟩
structure MergeL (a b es : List D) : Prop where
  va : vEnum a = true
  vb : vEnum b = true
  ve : vEnum es = true
  yes : ∀ d, d ∈ a ∨ d ∈ b → ∃ i, ∃ hi : i < es.length, fidx (isNm d.name) es = (i : Int) ∧ es[i].val = d.val
  back : ∃ es', mMerge b a = some es' ∧ mSame es' es = true
theorem merge_law {a b es : List D} (h : mMerge a b = some es) : MergeL a b es := by
  unfold mMerge at h
  split at h
  · rename_i hv
    rw [Bool.and_eq_true] at hv
    obtain ⟨va, vb⟩ := hv
    split at h
    · cases h
    · rename_i hc
      have hc : b.any (clash a) = false := by simpa using hc
      obtain ⟨rfl, ve⟩ := chkO_is h
      have na := vEnum_nodup va
      have nb := vEnum_nodup vb
      have hm := merge_mem na hc
      have hc2 : a.any (clash b) = false := by
        rw [List.any_eq_false]
        intro x hx hcl
        obtain ⟨e, he, hn, hv⟩ := (clash_iff nb).1 hcl
        have := List.any_eq_false.1 hc e he
        exact this ((clash_iff na).2 ⟨x, hx, hn.symm, fun e => hv e.symm⟩)
      have hm2 := merge_mem nb hc2
      have hsame : Same (b ++ a.flatMap (newF b)) (a ++ b.flatMap (newF a)) := fun d => by rw [hm, hm2, or_comm]
      have ve2 := vEnum_same ve (merge_nodup nb na) hsame
      refine ⟨va, vb, ve, fun d hd => ?_, _, ?_, mSame_iff.2 ⟨ve2, ve, hsame⟩⟩
      · obtain ⟨i, hi, h1, h2⟩ := idx_mem ve ((hm d).2 hd)
        exact ⟨i, hi, h1, by rw [h2]⟩
      · unfold mMerge
        rw [va, vb, hc2]
        simp [chkO, ve2]
  · cases h
end Go.Proofs.YtiebdhbioccogaaGreatDoor

/-
Plain facts on SameMeaning, ReadsOld and SortEnum, as their laws ask for them. No program in sight.
-/
namespace Go.Proofs.YtiebdhbioccogaaGreatDoor
set_option linter.unusedVariables false
set_option maxRecDepth 100000

theorem same_swap (ds es : List D) : mSame es ds = mSame ds es := by
  rw [Bool.eq_iff_iff, mSame_iff, mSame_iff]
  constructor
  · intro ⟨h1, h2, h3⟩; exact ⟨h2, h1, fun d => (h3 d).symm⟩
  · intro ⟨h1, h2, h3⟩; exact ⟨h2, h1, fun d => (h3 d).symm⟩
theorem same_length {ds es : List D} (h : mSame ds es = true) : ds.length = es.length := by
  obtain ⟨h1, h2, h3⟩ := mSame_iff.1 h
  exact same_len (vEnum_nodup h1) (vEnum_nodup h2) h3

/-! ### what reads old values -/
theorem readV_get {a b : List D} {v : Int} (h : readV a b v = true) : ∃ k, ∃ hk : k < b.length, fidx (isVal v) b = (k : Int) ∧ ∃ j, ∃ hj : j < a.length, fidx (isNm b[k].name) a = (j : Int) ∧ a[j].val = v := by
  rcases fidx_cases (isVal v) b with ⟨h1, _⟩ | ⟨k, hk, h1, _, _⟩
  · rw [readV_none (by omega)] at h; cases h
  · refine ⟨k, hk, h1, ?_⟩
    rcases fidx_cases (isNm b[k].name) a with ⟨h2, _⟩ | ⟨j, hj, h2, _, _⟩
    · rw [readV_no hk h1 (by omega)] at h; cases h
    · rw [readV_at hk h1 hj h2] at h
      exact ⟨j, hj, h2, by simpa using h⟩
theorem reads_get {a b : List D} (h : mReads a b = true) : ∀ d ∈ a, ∃ k, ∃ hk : k < b.length, fidx (isVal d.val) b = (k : Int) ∧ ∃ j, ∃ hj : j < a.length, fidx (isNm b[k].name) a = (j : Int) ∧ a[j].val = d.val := by
  intro d hd
  unfold mReads at h
  rw [Bool.and_eq_true] at h
  exact readV_get (List.all_eq_true.1 h.2 d hd)
theorem reads_self {a : List D} (hv : vEnum a = true) : mReads a a = true := by
  refine mReads_all hv hv fun d hd => ?_
  rcases fidx_cases (isVal d.val) a with ⟨h1, hn⟩ | ⟨k, hk, h1, hp, _⟩
  · obtain ⟨i, hi, rfl⟩ := List.mem_iff_getElem.1 hd
    have := hn i hi hi
    unfold isVal at this
    simp at this
  · rw [readV_at hk h1 hk (name_idx hv k hk)]
    exact hp

/-! ### sorting -/
theorem insV_perm (l : List D) (d : D) : (insV l d).Perm (d :: l) := by
  unfold insV
  refine List.perm_middle.trans ?_
  rw [List.take_append_drop]
theorem srt_perm (ds : List D) : (srt ds).Perm ds := by
  have h : ∀ (r l : List D), (r.foldl insV l).Perm (l ++ r) := by
    intro r
    induction r with
    | nil => intro l; simp
    | cons d r ih =>
      intro l
      rw [List.foldl_cons]
      refine (ih _).trans ?_
      refine ((insV_perm l d).append_right r).trans ?_
      exact List.perm_middle.symm
  exact h ds []
theorem srt_nodup {ds : List D} (h : NoDup ds) : NoDup (srt ds) := by
  unfold NoDup at *
  exact ((srt_perm ds).pairwise_iff (fun h e => h e.symm)).2 h
theorem srt_same {ds : List D} (hv : vEnum ds = true) : mSame (srt ds) ds = true := by
  have hs : Same (srt ds) ds := fun d => srt_mem
  exact mSame_iff.2 ⟨vEnum_same hv (srt_nodup (vEnum_nodup hv)) hs, hv, hs⟩
theorem insV_last {l : List D} {d : D} (h : ∀ a ∈ l, a.val ≤ d.val) : insV l d = l ++ [d] := by
  have hp : pos d.val l = l.length := Nat.le_antisymm (pos_le _ _) (pos_ge (Nat.le_refl _) (fun i hi _ => h _ (List.getElem_mem hi)))
  unfold insV
  rw [hp]; simp
theorem srt_two (ds : List D) : srt (srt ds) = srt ds := by
  have h : ∀ (r l : List D), sortedV (l ++ r) → r.foldl insV l = l ++ r := by
    intro r
    induction r with
    | nil => intro l _; simp
    | cons d r ih =>
      intro l hs
      have hl : insV l d = l ++ [d] := insV_last (fun a ha => by
        unfold sortedV at hs
        rw [List.pairwise_append] at hs
        exact hs.2.2 a ha d (by simp))
      rw [List.foldl_cons, hl, ih _ (by simpa using hs)]
      simp
  exact h (srt ds) [] (by simpa using srt_sorted ds)
theorem filter_none {l : List D} {p : D → Bool} (h : ∀ a ∈ l, p a = false) : l.filter p = [] := by
  rw [List.filter_eq_nil_iff]
  intro a ha; rw [h a ha]; simp
theorem insV_filter {l : List D} (d : D) (v : Int) (hs : sortedV l) : (insV l d).filter (isVal v) = l.filter (isVal v) ++ [d].filter (isVal v) := by
  obtain ⟨_, h2⟩ := pos_split d.val l
  have h2 := h2 hs
  unfold insV
  rw [List.filter_append, List.filter_cons]
  by_cases e : isVal v d = true
  · have hv : d.val = v := by unfold isVal at e; simpa using e
    have hd : (l.drop (pos d.val l)).filter (isVal v) = [] := filter_none fun a ha => by
      have := h2 a ha
      unfold isVal
      rw [beq_eq_false_iff_ne]; omega
    have : l.filter (isVal v) = (l.take (pos d.val l)).filter (isVal v) := by
      conv => lhs; rw [← List.take_append_drop (pos d.val l) l]
      rw [List.filter_append, hd, List.append_nil]
    rw [this, if_pos e, hd]
    simp [e]
  · rw [if_neg e]
    have e : isVal v d = false := by simpa using e
    rw [← List.filter_append, List.take_append_drop]
    simp [e]
theorem srt_filter (ds : List D) (v : Int) : (srt ds).filter (isVal v) = ds.filter (isVal v) := by
  have h : ∀ (r l : List D), sortedV l → (r.foldl insV l).filter (isVal v) = l.filter (isVal v) ++ r.filter (isVal v) := by
    intro r
    induction r with
    | nil => intro l _; simp
    | cons d r ih =>
      intro l hs
      rw [List.foldl_cons, ih _ (insV_sorted d hs), insV_filter d v hs, List.append_assoc, ← List.filter_append]
      rfl
  have := h ds [] List.Pairwise.nil
  rw [List.filter_nil, List.nil_append] at this
  exact this
theorem find_of {α : Type} {p : α → Bool} {l : List α} {k : Nat} (hk : k < l.length) (h : fidx p l = (k : Int)) : l.find? p = some l[k] := by
  rcases fidx_cases p l with ⟨h1, _⟩ | ⟨j, hj, h1, hp, hn⟩
  · omega
  · obtain rfl : j = k := by omega
    rw [List.find?_eq_some_iff_getElem]
    exact ⟨hp, j, hj, rfl, fun i hi => by simp [hn i (by omega) hi]⟩
theorem of_find {α : Type} {p : α → Bool} {l : List α} {x : α} (h : l.find? p = some x) : ∃ k, ∃ hk : k < l.length, fidx p l = (k : Int) ∧ l[k] = x := by
  rcases fidx_cases p l with ⟨h1, hn⟩ | ⟨j, hj, h1, hp, hn⟩
  · rw [List.find?_eq_some_iff_getElem] at h
    obtain ⟨hp, i, hi, rfl, _⟩ := h
    rw [hn i hi hi] at hp; cases hp
  · have := find_of hj h1
    rw [h] at this
    cases this
    exact ⟨j, hj, h1, rfl⟩
theorem mems_swap {ds es : List D} (h : ∀ v, es.filter (isVal v) = ds.filter (isVal v)) : ∀ m ∈ mems es, m ∈ mems ds := by
  intro m hm
  obtain ⟨i, hi, rfl⟩ := List.mem_iff_getElem.1 hm
  obtain ⟨j, hj, e, hf⟩ := mems_get es i hi
  have h1 := find_of hj hf
  rw [← List.head?_filter, h, List.head?_filter] at h1
  obtain ⟨k, hk, h2, h3⟩ := of_find h1
  rw [e, ← h3]
  exact mems_has k hk (by rw [h3]; exact h2)
theorem mems_in {ds : List D} : ∀ m ∈ mems ds, m ∈ ds := by
  intro m hm
  obtain ⟨i, hi, rfl⟩ := List.mem_iff_getElem.1 hm
  obtain ⟨j, hj, e, hf⟩ := mems_get ds i hi
  rw [e]; exact List.getElem_mem hj
theorem mems_names {ds : List D} (hn : NoDup ds) : ((mems ds).map D.name).Pairwise (· ≠ ·) := by
  rw [List.pairwise_map]
  refine (mems_pair ds ds.length (Nat.le_refl _)).imp_of_mem ?_
  intro a b ha hb hv e
  have ha := mems_in a ha
  have hb := mems_in b hb
  have h1 := (defOf_iff hn (s := a.name)).2 ⟨ha, rfl⟩
  have h2 := (defOf_iff hn (s := a.name)).2 ⟨hb, e.symm⟩
  rw [h1] at h2
  cases h2
  exact hv rfl
theorem mems_len_le {ds es : List D} (hn : NoDup ds) (h : ∀ m ∈ mems ds, m ∈ mems es) : (mems ds).length ≤ (mems es).length := by
  have := nodup_le (l2 := (mems es).map D.name) (mems_names hn) (fun x hx => by
    obtain ⟨m, hm, rfl⟩ := List.mem_map.1 hx
    exact List.mem_map_of_mem (h m hm))
  simpa using this
structure SortL (ds ms : List D) : Prop where
  ve : vEnum ms = true
  up : ∀ k (h : k + 1 < ms.length) (h' : k < ms.length), ms[k].val ≤ ms[k + 1].val
  mem : ∀ m ∈ (mems ms).map (·.name), m ∈ (mems ds).map (·.name)
  len : (mems ms).length = (mems ds).length
  same : mSame ms ds = true
  two : srt ms = ms
theorem sort_law {ds : List D} (hv : vEnum ds = true) : SortL ds (srt ds) := by
  have hs := srt_same hv
  have hve := (mSame_iff.1 hs).1
  have h1 := mems_swap (ds := ds) (es := srt ds) (fun v => srt_filter ds v)
  have h2 := mems_swap (ds := srt ds) (es := ds) (fun v => (srt_filter ds v).symm)
  refine ⟨hve, fun k h h' => ?_, fun m hm => ?_, ?_, hs, srt_two ds⟩
  · exact (List.pairwise_iff_getElem.1 (srt_sorted ds)) k (k + 1) h' h (by omega)
  · obtain ⟨x, hx, rfl⟩ := List.mem_map.1 hm
    exact List.mem_map_of_mem (h1 x hx)
  · exact Nat.le_antisymm (mems_len_le (vEnum_nodup hve) h1) (mems_len_le (vEnum_nodup hv) h2)
end Go.Proofs.YtiebdhbioccogaaGreatDoor

