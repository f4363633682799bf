/-
Plain functions: when two lists of definitions tell the same.
-/
import Derived.Test.YteaiaglangmhbaaDoorDiffP
import Derived.Test.YteaiaglangmhbaaDoorBaseC
namespace Go.Proofs.YteaiaglangmhbaaDoor
set_option linter.unusedVariables false
set_option maxRecDepth 100000

theorem D_ext {a b : D} (h1 : a.name = b.name) (h2 : a.val = b.val) : a = b := by
  cases a; cases b; simp at h1 h2; subst h1 h2; rfl
theorem isD_iff {e d : D} : isD e d = true ↔ d = e := by
  unfold isD
  rw [Bool.and_eq_true, beq_iff_eq, beq_iff_eq]
  constructor
  · intro ⟨h1, h2⟩
    exact (D_ext (nm_inj h1) h2).symm
  · intro h; subst h; exact ⟨rfl, rfl⟩
theorem any_isD {e : D} {ds : List D} : ds.any (isD e) = true ↔ e ∈ ds := by
  rw [List.any_eq_true]
  constructor
  · intro ⟨x, hx, h⟩; rw [isD_iff] at h; subst h; exact hx
  · intro h; exact ⟨e, h, isD_iff.2 rfl⟩
theorem defOf_iff {ds : List D} (hn : NoDup ds) {s : ByteArray} {d : D} : defOf ds s = some d ↔ d ∈ ds ∧ d.name = s := by
  rcases fidx_cases (isNm s) ds with ⟨h, hno⟩ | ⟨k, hk, h, hp, _⟩
  · rw [defOf_none (by omega)]
    constructor
    · intro h; cases h
    · intro ⟨hd, he⟩
      obtain ⟨i, hi, rfl⟩ := List.mem_iff_getElem.1 hd
      have := hno i hi hi
      rw [isNm_iff.2 he] at this
      cases this
  · rw [defOf_some hk h]
    rw [isNm_iff] at hp
    constructor
    · intro he; cases he; exact ⟨List.getElem_mem hk, hp⟩
    · intro ⟨hd, he⟩
      obtain ⟨i, hi, rfl⟩ := List.mem_iff_getElem.1 hd
      have := nodup_inj hn hk hi (by rw [hp, he])
      subst this; rfl
theorem defOf_no {ds : List D} {s : ByteArray} : defOf ds s = none ↔ ∀ d ∈ ds, d.name ≠ s := by
  rcases fidx_cases (isNm s) ds with ⟨h, hno⟩ | ⟨k, hk, h, hp, _⟩
  · rw [defOf_none (by omega)]
    refine ⟨fun _ d hd he => ?_, fun _ => rfl⟩
    obtain ⟨i, hi, rfl⟩ := List.mem_iff_getElem.1 hd
    have := hno i hi hi
    rw [isNm_iff.2 he] at this
    cases this
  · rw [defOf_some hk h]
    refine ⟨fun h => (by cases h), fun hh => ?_⟩
    exact absurd (isNm_iff.1 hp) (hh _ (List.getElem_mem hk))

theorem lawB : LawfulBEq ByteArray where
  eq_of_beq := fun {a b} h => by rw [beq_toListBytes, beq_iff_eq] at h; exact nm_inj h
  rfl := fun {a} => by rw [beq_toListBytes, beq_iff_eq]
theorem nodup_le {l1 l2 : List ByteArray} (h : l1.Pairwise (· ≠ ·)) (hs : ∀ x ∈ l1, x ∈ l2) : l1.length ≤ l2.length := by
  haveI := lawB
  induction l1 generalizing l2 with
  | nil => exact Nat.zero_le _
  | cons x r ih =>
    rw [List.pairwise_cons] at h
    have hx := hs x (by simp)
    have := ih (l2 := l2.erase x) h.2 (fun y hy => (List.mem_erase_of_ne (fun e => h.1 y hy e.symm)).2 (hs y (by simp [hy])))
    rw [List.length_erase_of_mem hx] at this
    have : 0 < l2.length := List.length_pos_of_mem hx
    simp
    omega
theorem nodup_eq {l1 l2 : List ByteArray} (h : l1.Pairwise (· ≠ ·)) (hs : ∀ x ∈ l1, x ∈ l2) (hl : l2.length ≤ l1.length) : ∀ x ∈ l2, x ∈ l1 := by
  intro y hy
  by_cases hm : y ∈ l1
  · exact hm
  · have := nodup_le (l1 := y :: l1) (l2 := l2) (List.pairwise_cons.2 ⟨fun z hz e => hm (e ▸ hz), h⟩) (fun x hx => by
      rcases List.mem_cons.1 hx with rfl | hx
      · exact hy
      · exact hs x hx)
    simp at this
    omega
theorem nodup_names {ds : List D} (h : NoDup ds) : (ds.map D.name).Pairwise (· ≠ ·) := List.pairwise_map.2 h
/-- Two lists have the same definitions. -/
def Same (ds es : List D) : Prop := ∀ d, d ∈ ds ↔ d ∈ es
theorem same_len {ds es : List D} (hd : NoDup ds) (he : NoDup es) (h : Same ds es) : ds.length = es.length := by
  have h1 := nodup_le (l2 := es.map D.name) (nodup_names hd) (fun x hx => by
    obtain ⟨d, hd, rfl⟩ := List.mem_map.1 hx
    exact List.mem_map_of_mem ((h d).1 hd))
  have h2 := nodup_le (l2 := ds.map D.name) (nodup_names he) (fun x hx => by
    obtain ⟨d, hd, rfl⟩ := List.mem_map.1 hx
    exact List.mem_map_of_mem ((h d).2 hd))
  simp at h1 h2
  omega
theorem same_of {ds es : List D} (hd : NoDup ds) (he : NoDup es) (hl : ds.length = es.length) (hs : ∀ d ∈ ds, d ∈ es) : Same ds es := by
  intro e
  refine ⟨hs e, fun hm => ?_⟩
  have := nodup_eq (l2 := es.map D.name) (nodup_names hd) (fun x hx => by
    obtain ⟨d, hd, rfl⟩ := List.mem_map.1 hx
    exact List.mem_map_of_mem (hs d hd)) (by simp; omega) e.name (List.mem_map_of_mem hm)
  obtain ⟨d, hdm, hn⟩ := List.mem_map.1 this
  have h1 := (defOf_iff he (s := e.name)).2 ⟨hs d hdm, hn⟩
  have h2 := (defOf_iff he (s := e.name)).2 ⟨hm, rfl⟩
  rw [h1] at h2
  cases h2
  exact hdm
theorem mDiff_nil {ds es : List D} (hd : NoDup ds) (he : NoDup es) : mDiff ds es = [] ↔ Same ds es := by
  unfold mDiff
  rw [List.append_eq_nil_iff, List.append_eq_nil_iff]
  constructor
  · intro ⟨⟨h1, h2⟩, h3⟩
    have hsub : ∀ d ∈ ds, d ∈ es := by
      intro d hm
      have q1 := List.flatMap_eq_nil_iff.1 h1 d hm
      have q2 := List.flatMap_eq_nil_iff.1 h2 d hm
      cases hdf : defOf es d.name with
      | none => unfold dropF at q1; rw [hdf] at q1; cases q1
      | some e =>
        unfold turnF at q2; rw [hdf] at q2
        by_cases hv : e.val = d.val
        · obtain ⟨m1, m2⟩ := (defOf_iff he).1 hdf
          have : e = d := D_ext m2 hv
          subst this; exact m1
        · simp [hv] at q2
    have hnm : ∀ x ∈ es.map D.name, x ∈ ds.map D.name := by
      intro x hx
      obtain ⟨e, hm, rfl⟩ := List.mem_map.1 hx
      have q3 := List.flatMap_eq_nil_iff.1 h3 e hm
      cases hdf : defOf ds e.name with
      | none => unfold addF at q3; rw [hdf] at q3; cases q3
      | some d =>
        obtain ⟨m1, m2⟩ := (defOf_iff hd).1 hdf
        rw [← m2]
        exact List.mem_map_of_mem m1
    have l1 := nodup_le (nodup_names he) hnm
    have l2 := nodup_le (l2 := es.map D.name) (nodup_names hd) (fun x hx => by
      obtain ⟨d, hm, rfl⟩ := List.mem_map.1 hx
      exact List.mem_map_of_mem (hsub d hm))
    simp at l1 l2
    exact same_of hd he (by omega) hsub
  · intro h
    refine ⟨⟨List.flatMap_eq_nil_iff.2 fun d hm => ?_, List.flatMap_eq_nil_iff.2 fun d hm => ?_⟩, List.flatMap_eq_nil_iff.2 fun d hm => ?_⟩
    · have := (defOf_iff he (s := d.name)).2 ⟨(h d).1 hm, rfl⟩
      unfold dropF; rw [this]
    · have := (defOf_iff he (s := d.name)).2 ⟨(h d).1 hm, rfl⟩
      unfold turnF; rw [this]; simp
    · have := (defOf_iff hd (s := d.name)).2 ⟨(h d).2 hm, rfl⟩
      unfold addF; rw [this]
def mSame (ds es : List D) : Bool := vEnum ds && vEnum es && ((mDiff ds es).length == 0)
theorem vEnum_nodup {ds : List D} (h : vEnum ds = true) : NoDup ds := ((vEnum_iff ds).1 h).2.2
theorem mSame_iff {ds es : List D} : mSame ds es = true ↔ vEnum ds = true ∧ vEnum es = true ∧ Same ds es := by
  unfold mSame
  rw [Bool.and_eq_true, Bool.and_eq_true, beq_iff_eq]
  constructor
  · intro ⟨⟨h1, h2⟩, h3⟩
    exact ⟨h1, h2, (mDiff_nil (vEnum_nodup h1) (vEnum_nodup h2)).1 (List.eq_nil_of_length_eq_zero h3)⟩
  · intro ⟨h1, h2, h3⟩
    exact ⟨⟨h1, h2⟩, by rw [(mDiff_nil (vEnum_nodup h1) (vEnum_nodup h2)).2 h3]; rfl⟩
end Go.Proofs.YteaiaglangmhbaaDoor
