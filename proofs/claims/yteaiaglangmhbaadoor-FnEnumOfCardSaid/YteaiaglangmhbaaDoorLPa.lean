/-
Plain facts on what AddDef, DropDef, RenameDef and MergeEnums make, as their laws ask for them. No program in sight.
-/
import Derived.Test.YteaiaglangmhbaaDoorMergeP
import Derived.Test.YteaiaglangmhbaaDoorRename
import Derived.Test.YteaiaglangmhbaaDoorSameP
import Derived.Test.YteaiaglangmhbaaDoorLFun
namespace Go.Proofs.YteaiaglangmhbaaDoor
set_option linter.unusedVariables false
set_option maxRecDepth 100000

theorem chkO_is {ds es : List D} (h : chkO ds = some es) : es = ds ∧ vEnum es = true := by
  unfold chkO at h
  cases hv : vEnum ds
  · rw [hv] at h; cases h
  · rw [hv] at h; cases h; exact ⟨rfl, hv⟩
/-- A definition that is there is found by its name. -/
theorem idx_mem {ds : List D} (hv : vEnum ds = true) {d : D} (hd : d ∈ ds) : ∃ i, ∃ hi : i < ds.length, fidx (isNm d.name) ds = (i : Int) ∧ ds[i] = d := by
  obtain ⟨i, hi, rfl⟩ := List.mem_iff_getElem.1 hd
  exact ⟨i, hi, name_idx hv i hi, rfl⟩
theorem idx_no {ds : List D} {s : ByteArray} (h : ∀ d ∈ ds, d.name ≠ s) : fidx (isNm s) ds < 0 := by
  rcases fidx_cases (isNm s) ds with ⟨h1, _⟩ | ⟨k, hk, h1, hp, _⟩
  · omega
  · exact absurd (isNm_iff.1 hp) (h _ (List.getElem_mem hk))

structure AddL (ds : List D) (d : D) (es : List D) : Prop where
  ve : vEnum es = true
  len : es.length = ds.length + 1
  idx : fidx (isNm d.name) es = (ds.length : Int)
  at_ : ∀ h : ds.length < es.length, es[ds.length] = d
  ers : ers es ds.length = ds
theorem add_law {ds es : List D} {d : D} (h : mAdd ds d = some es) : AddL ds d es := by
  unfold mAdd at h
  split at h
  · obtain ⟨rfl, hv⟩ := chkO_is h
    have hl : ds.length < (ds ++ [d]).length := by simp
    have ha : (ds ++ [d])[ds.length] = d := by simp
    have hi := name_idx hv ds.length hl
    rw [ha] at hi
    exact ⟨hv, by simp, hi, fun _ => ha, by unfold Go.Proofs.YteaiaglangmhbaaDoor.ers; simp⟩
  · cases h

theorem ers_iff {ds : List D} (hn : NoDup ds) {k : Nat} (hk : k < ds.length) (x : D) : x ∈ ers ds k ↔ x ∈ ds ∧ x.name ≠ ds[k].name := by
  unfold ers
  constructor
  · intro h
    rcases List.mem_append.1 h with h | h
    · obtain ⟨i, hi, rfl⟩ := List.mem_iff_getElem.1 h
      have hi2 : i < k ∧ i < ds.length := by rw [List.length_take] at hi; omega
      rw [List.getElem_take]
      refine ⟨List.getElem_mem _, fun e => ?_⟩
      have := nodup_inj hn hi2.2 hk e
      omega
    · obtain ⟨i, hi, rfl⟩ := List.mem_iff_getElem.1 h
      rw [List.length_drop] at hi
      rw [List.getElem_drop]
      refine ⟨List.getElem_mem _, fun e => ?_⟩
      have := nodup_inj hn (by omega) hk e
      omega
  · intro ⟨h, hne⟩
    obtain ⟨i, hi, rfl⟩ := List.mem_iff_getElem.1 h
    rcases Nat.lt_trichotomy i k with hik | rfl | hik
    · exact List.mem_append.2 (.inl (List.mem_iff_getElem.2 ⟨i, by simp; omega, by simp⟩))
    · exact absurd rfl hne
    · refine List.mem_append.2 (.inr (List.mem_iff_getElem.2 ⟨i - (k + 1), by simp; omega, ?_⟩))
      rw [List.getElem_drop]
      congr 1
      omega

structure DropL (ds : List D) (s : ByteArray) (es : List D) : Prop where
  ve : vEnum es = true
  len : es.length + 1 = ds.length
  no : ∀ j (hj : j < ds.length), ds[j].name = s → fidx (isNm ds[j].name) es < 0
  yes : ∀ j (hj : j < ds.length), ds[j].name ≠ s → ∃ i, ∃ hi : i < es.length, fidx (isNm ds[j].name) es = (i : Int) ∧ es[i].val = ds[j].val
theorem drop_law {ds es : List D} {s : ByteArray} (h : mDrop ds s = some es) : DropL ds s es := by
  unfold mDrop at h
  split at h
  · rename_i hv
    split at h
    · cases h
    · rename_i hx
      rcases fidx_cases (isNm s) ds with ⟨h1, _⟩ | ⟨k, hk, h1, hp, _⟩
      · omega
      · rw [h1] at h
        simp at h
        subst h
        have hs : ds[k].name = s := isNm_iff.1 hp
        have hn := vEnum_nodup hv
        refine ⟨vEnum_ers hv k, by rw [ers_len ds k hk]; omega, fun j hj e => idx_no fun d hd e2 => ?_, fun j hj hne => ?_⟩
        · have := ((ers_iff hn hk d).1 hd).2
          rw [hs] at this
          exact this (e2.trans e)
        · obtain ⟨i, hi, h2, h3⟩ := idx_mem (vEnum_ers hv k) ((ers_iff hn hk ds[j]).2 ⟨List.getElem_mem hj, by rw [hs]; exact hne⟩)
          exact ⟨i, hi, h2, by rw [h3]⟩
  · cases h

structure RenL (ds : List D) (s to : ByteArray) (es : List D) (k : Nat) : Prop where
  vd : vEnum ds = true
  ve : vEnum es = true
  lt : k < ds.length
  lt2 : k < es.length
  idx : fidx (isNm s) ds = (k : Int)
  idx2 : fidx (isNm to) es = (k : Int)
  val : ∀ (h : k < ds.length) (h2 : k < es.length), es[k].val = ds[k].val
  back : ∀ (h2 : k < es.length), rep es k [⟨s, es[k].val⟩] = ds
theorem rename_law {ds es : List D} {s to : ByteArray} (h : mRename ds s to = some es) : ∃ k, RenL ds s to es k := by
  cases hv : vEnum ds
  · rw [mRename_no (.inl hv)] at h; cases h
  · rcases fidx_cases (isNm s) ds with ⟨h1, _⟩ | ⟨k, hk, h1, hp, _⟩
    · rw [mRename_no (.inr (by omega))] at h; cases h
    · rw [mRename_yes hv hk h1] at h
      obtain ⟨rfl, hve⟩ := chkO_is h
      have hs : ds[k].name = s := isNm_iff.1 hp
      rw [← rep_set ds k hk] at *
      have hl : k < (ds.set k ⟨to, ds[k].val⟩).length := by simpa using hk
      have ha : (ds.set k (⟨to, ds[k].val⟩ : D))[k] = ⟨to, ds[k].val⟩ := by simp
      have hi := name_idx hve k hl
      rw [ha] at hi
      refine ⟨k, hv, hve, hk, hl, h1, hi, fun _ _ => by rw [ha], fun _ => ?_⟩
      rw [ha, ← rep_set _ k hl, List.set_set]
      have : (⟨s, ds[k].val⟩ : D) = ds[k] := by rw [← hs]
      rw [this, List.set_getElem_self]

/-! ### merging -/
theorem newFs (a b : List D) : b.flatMap (newF a) = b.filter fun d => (defOf a d.name).isNone := by
  induction b with
  | nil => rfl
  | cons d r ih =>
    rw [List.flatMap_cons, ih, List.filter_cons]
    unfold newF
    cases defOf a d.name <;> simp
theorem nodup_map {ds : List D} : NoDup ds ↔ (ds.map D.name).Pairwise (· ≠ ·) := by unfold NoDup; rw [List.pairwise_map]
theorem merge_nodup {a b : List D} (ha : NoDup a) (hb : NoDup b) : NoDup (a ++ b.flatMap (newF a)) := by
  rw [newFs]
  unfold NoDup
  rw [List.pairwise_append]
  refine ⟨ha, hb.sublist List.filter_sublist, fun x hx y hy e => ?_⟩
  have h2 := (List.mem_filter.1 hy).2
  have h3 : defOf a y.name = none := by simpa using h2
  exact defOf_no.1 h3 x hx e
theorem clash_iff {a : List D} (ha : NoDup a) {d : D} : clash a d = true ↔ ∃ e ∈ a, e.name = d.name ∧ e.val ≠ d.val := by
  unfold clash
  cases h : defOf a d.name with
  | none =>
    constructor
    · intro h; cases h
    · intro ⟨e, he, hn, _⟩; exact absurd hn (defOf_no.1 h e he)
  | some e =>
    obtain ⟨h1, h2⟩ := (defOf_iff ha).1 h
    show (e.val != d.val) = true ↔ _
    rw [bne_iff_ne]
    constructor
    · intro hv; exact ⟨e, h1, h2, hv⟩
    · intro ⟨e', h1', h2', hv⟩
      have := (defOf_iff ha).2 ⟨h1', h2'⟩
      rw [h] at this
      cases this
      exact hv
theorem merge_mem {a b : List D} (ha : NoDup a) (hc : b.any (clash a) = false) (x : D) : x ∈ a ++ b.flatMap (newF a) ↔ x ∈ a ∨ x ∈ b := by
  rw [newFs, List.mem_append, List.mem_filter]
  constructor
  · rintro (h | ⟨h, _⟩)
    · exact .inl h
    · exact .inr h
  · rintro (h | h)
    · exact .inl h
    · cases hd : defOf a x.name with
      | none => exact .inr ⟨h, rfl⟩
      | some e =>
        obtain ⟨h1, h2⟩ := (defOf_iff ha).1 hd
        have hv : e.val = x.val := by
          by_cases he : e.val = x.val
          · exact he
          · have := List.any_eq_false.1 hc x h
            exact absurd ((clash_iff ha).2 ⟨e, h1, h2, he⟩) (by simpa using this)
        exact .inl (by rw [← D_ext h2 hv]; exact h1)
theorem vEnum_same {ds es : List D} (hv : vEnum ds = true) (hn : NoDup es) (h : Same es ds) : vEnum es = true := by
  obtain ⟨h1, h2, h3⟩ := (vEnum_iff ds).1 hv
  exact (vEnum_iff es).2 ⟨by rw [same_len hn h3 h]; exact h1, fun d hd => h2 d ((h d).1 hd), hn⟩
structure MergeL (a b es : List D) : Prop where
  va : vEnum a = true
  vb : vEnum b = true
  ve : vEnum es = true
  yes : ∀ d, d ∈ a ∨ d ∈ b → ∃ i, ∃ hi : i < es.length, fidx (isNm d.name) es = (i : Int) ∧ es[i].val = d.val
  back : ∃ es', mMerge b a = some es' ∧ mSame es' es = true
theorem merge_law {a b es : List D} (h : mMerge a b = some es) : MergeL a b es := by
  unfold mMerge at h
  split at h
  · rename_i hv
    rw [Bool.and_eq_true] at hv
    obtain ⟨va, vb⟩ := hv
    split at h
    · cases h
    · rename_i hc
      have hc : b.any (clash a) = false := by simpa using hc
      obtain ⟨rfl, ve⟩ := chkO_is h
      have na := vEnum_nodup va
      have nb := vEnum_nodup vb
      have hm := merge_mem na hc
      have hc2 : a.any (clash b) = false := by
        rw [List.any_eq_false]
        intro x hx hcl
        obtain ⟨e, he, hn, hv⟩ := (clash_iff nb).1 hcl
        have := List.any_eq_false.1 hc e he
        exact this ((clash_iff na).2 ⟨x, hx, hn.symm, fun e => hv e.symm⟩)
      have hm2 := merge_mem nb hc2
      have hsame : Same (b ++ a.flatMap (newF b)) (a ++ b.flatMap (newF a)) := fun d => by rw [hm, hm2, or_comm]
      have ve2 := vEnum_same ve (merge_nodup nb na) hsame
      refine ⟨va, vb, ve, fun d hd => ?_, _, ?_, mSame_iff.2 ⟨ve2, ve, hsame⟩⟩
      · obtain ⟨i, hi, h1, h2⟩ := idx_mem ve ((hm d).2 hd)
        exact ⟨i, hi, h1, by rw [h2]⟩
      · unfold mMerge
        rw [va, vb, hc2]
        simp [chkO, ve2]
  · cases h
end Go.Proofs.YteaiaglangmhbaaDoor
