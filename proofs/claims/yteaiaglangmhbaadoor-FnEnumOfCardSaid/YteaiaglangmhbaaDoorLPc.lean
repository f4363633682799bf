/-
Plain facts on SameMeaning, ReadsOld and SortEnum, as their laws ask for them. No program in sight.
-/
import Derived.Test.YteaiaglangmhbaaDoorLPa
import Derived.Test.YteaiaglangmhbaaDoorReadP
import Derived.Test.YteaiaglangmhbaaDoorSortP
namespace Go.Proofs.YteaiaglangmhbaaDoor
set_option linter.unusedVariables false
set_option maxRecDepth 100000

theorem same_swap (ds es : List D) : mSame es ds = mSame ds es := by
  rw [Bool.eq_iff_iff, mSame_iff, mSame_iff]
  constructor
  · intro ⟨h1, h2, h3⟩; exact ⟨h2, h1, fun d => (h3 d).symm⟩
  · intro ⟨h1, h2, h3⟩; exact ⟨h2, h1, fun d => (h3 d).symm⟩
theorem same_length {ds es : List D} (h : mSame ds es = true) : ds.length = es.length := by
  obtain ⟨h1, h2, h3⟩ := mSame_iff.1 h
  exact same_len (vEnum_nodup h1) (vEnum_nodup h2) h3

/-! ### what reads old values -/
theorem readV_get {a b : List D} {v : Int} (h : readV a b v = true) : ∃ k, ∃ hk : k < b.length, fidx (isVal v) b = (k : Int) ∧ ∃ j, ∃ hj : j < a.length, fidx (isNm b[k].name) a = (j : Int) ∧ a[j].val = v := by
  rcases fidx_cases (isVal v) b with ⟨h1, _⟩ | ⟨k, hk, h1, _, _⟩
  · rw [readV_none (by omega)] at h; cases h
  · refine ⟨k, hk, h1, ?_⟩
    rcases fidx_cases (isNm b[k].name) a with ⟨h2, _⟩ | ⟨j, hj, h2, _, _⟩
    · rw [readV_no hk h1 (by omega)] at h; cases h
    · rw [readV_at hk h1 hj h2] at h
      exact ⟨j, hj, h2, by simpa using h⟩
theorem reads_get {a b : List D} (h : mReads a b = true) : ∀ d ∈ a, ∃ k, ∃ hk : k < b.length, fidx (isVal d.val) b = (k : Int) ∧ ∃ j, ∃ hj : j < a.length, fidx (isNm b[k].name) a = (j : Int) ∧ a[j].val = d.val := by
  intro d hd
  unfold mReads at h
  rw [Bool.and_eq_true] at h
  exact readV_get (List.all_eq_true.1 h.2 d hd)
theorem reads_self {a : List D} (hv : vEnum a = true) : mReads a a = true := by
  refine mReads_all hv hv fun d hd => ?_
  rcases fidx_cases (isVal d.val) a with ⟨h1, hn⟩ | ⟨k, hk, h1, hp, _⟩
  · obtain ⟨i, hi, rfl⟩ := List.mem_iff_getElem.1 hd
    have := hn i hi hi
    unfold isVal at this
    simp at this
  · rw [readV_at hk h1 hk (name_idx hv k hk)]
    exact hp

/-! ### sorting -/
theorem insV_perm (l : List D) (d : D) : (insV l d).Perm (d :: l) := by
  unfold insV
  refine List.perm_middle.trans ?_
  rw [List.take_append_drop]
theorem srt_perm (ds : List D) : (srt ds).Perm ds := by
  have h : ∀ (r l : List D), (r.foldl insV l).Perm (l ++ r) := by
    intro r
    induction r with
    | nil => intro l; simp
    | cons d r ih =>
      intro l
      rw [List.foldl_cons]
      refine (ih _).trans ?_
      refine ((insV_perm l d).append_right r).trans ?_
      exact List.perm_middle.symm
  exact h ds []
theorem srt_nodup {ds : List D} (h : NoDup ds) : NoDup (srt ds) := by
  unfold NoDup at *
  exact ((srt_perm ds).pairwise_iff (fun h e => h e.symm)).2 h
theorem srt_same {ds : List D} (hv : vEnum ds = true) : mSame (srt ds) ds = true := by
  have hs : Same (srt ds) ds := fun d => srt_mem
  exact mSame_iff.2 ⟨vEnum_same hv (srt_nodup (vEnum_nodup hv)) hs, hv, hs⟩
theorem insV_last {l : List D} {d : D} (h : ∀ a ∈ l, a.val ≤ d.val) : insV l d = l ++ [d] := by
  have hp : pos d.val l = l.length := Nat.le_antisymm (pos_le _ _) (pos_ge (Nat.le_refl _) (fun i hi _ => h _ (List.getElem_mem hi)))
  unfold insV
  rw [hp]; simp
theorem srt_two (ds : List D) : srt (srt ds) = srt ds := by
  have h : ∀ (r l : List D), sortedV (l ++ r) → r.foldl insV l = l ++ r := by
    intro r
    induction r with
    | nil => intro l _; simp
    | cons d r ih =>
      intro l hs
      have hl : insV l d = l ++ [d] := insV_last (fun a ha => by
        unfold sortedV at hs
        rw [List.pairwise_append] at hs
        exact hs.2.2 a ha d (by simp))
      rw [List.foldl_cons, hl, ih _ (by simpa using hs)]
      simp
  exact h (srt ds) [] (by simpa using srt_sorted ds)
theorem filter_none {l : List D} {p : D → Bool} (h : ∀ a ∈ l, p a = false) : l.filter p = [] := by
  rw [List.filter_eq_nil_iff]
  intro a ha; rw [h a ha]; simp
theorem insV_filter {l : List D} (d : D) (v : Int) (hs : sortedV l) : (insV l d).filter (isVal v) = l.filter (isVal v) ++ [d].filter (isVal v) := by
  obtain ⟨_, h2⟩ := pos_split d.val l
  have h2 := h2 hs
  unfold insV
  rw [List.filter_append, List.filter_cons]
  by_cases e : isVal v d = true
  · have hv : d.val = v := by unfold isVal at e; simpa using e
    have hd : (l.drop (pos d.val l)).filter (isVal v) = [] := filter_none fun a ha => by
      have := h2 a ha
      unfold isVal
      rw [beq_eq_false_iff_ne]; omega
    have : l.filter (isVal v) = (l.take (pos d.val l)).filter (isVal v) := by
      conv => lhs; rw [← List.take_append_drop (pos d.val l) l]
      rw [List.filter_append, hd, List.append_nil]
    rw [this, if_pos e, hd]
    simp [e]
  · rw [if_neg e]
    have e : isVal v d = false := by simpa using e
    rw [← List.filter_append, List.take_append_drop]
    simp [e]
theorem srt_filter (ds : List D) (v : Int) : (srt ds).filter (isVal v) = ds.filter (isVal v) := by
  have h : ∀ (r l : List D), sortedV l → (r.foldl insV l).filter (isVal v) = l.filter (isVal v) ++ r.filter (isVal v) := by
    intro r
    induction r with
    | nil => intro l _; simp
    | cons d r ih =>
      intro l hs
      rw [List.foldl_cons, ih _ (insV_sorted d hs), insV_filter d v hs, List.append_assoc, ← List.filter_append]
      rfl
  have := h ds [] List.Pairwise.nil
  rw [List.filter_nil, List.nil_append] at this
  exact this
theorem find_of {α : Type} {p : α → Bool} {l : List α} {k : Nat} (hk : k < l.length) (h : fidx p l = (k : Int)) : l.find? p = some l[k] := by
  rcases fidx_cases p l with ⟨h1, _⟩ | ⟨j, hj, h1, hp, hn⟩
  · omega
  · obtain rfl : j = k := by omega
    rw [List.find?_eq_some_iff_getElem]
    exact ⟨hp, j, hj, rfl, fun i hi => by simp [hn i (by omega) hi]⟩
theorem of_find {α : Type} {p : α → Bool} {l : List α} {x : α} (h : l.find? p = some x) : ∃ k, ∃ hk : k < l.length, fidx p l = (k : Int) ∧ l[k] = x := by
  rcases fidx_cases p l with ⟨h1, hn⟩ | ⟨j, hj, h1, hp, hn⟩
  · rw [List.find?_eq_some_iff_getElem] at h
    obtain ⟨hp, i, hi, rfl, _⟩ := h
    rw [hn i hi hi] at hp; cases hp
  · have := find_of hj h1
    rw [h] at this
    cases this
    exact ⟨j, hj, h1, rfl⟩
theorem mems_swap {ds es : List D} (h : ∀ v, es.filter (isVal v) = ds.filter (isVal v)) : ∀ m ∈ mems es, m ∈ mems ds := by
  intro m hm
  obtain ⟨i, hi, rfl⟩ := List.mem_iff_getElem.1 hm
  obtain ⟨j, hj, e, hf⟩ := mems_get es i hi
  have h1 := find_of hj hf
  rw [← List.head?_filter, h, List.head?_filter] at h1
  obtain ⟨k, hk, h2, h3⟩ := of_find h1
  rw [e, ← h3]
  exact mems_has k hk (by rw [h3]; exact h2)
theorem mems_in {ds : List D} : ∀ m ∈ mems ds, m ∈ ds := by
  intro m hm
  obtain ⟨i, hi, rfl⟩ := List.mem_iff_getElem.1 hm
  obtain ⟨j, hj, e, hf⟩ := mems_get ds i hi
  rw [e]; exact List.getElem_mem hj
theorem mems_names {ds : List D} (hn : NoDup ds) : ((mems ds).map D.name).Pairwise (· ≠ ·) := by
  rw [List.pairwise_map]
  refine (mems_pair ds ds.length (Nat.le_refl _)).imp_of_mem ?_
  intro a b ha hb hv e
  have ha := mems_in a ha
  have hb := mems_in b hb
  have h1 := (defOf_iff hn (s := a.name)).2 ⟨ha, rfl⟩
  have h2 := (defOf_iff hn (s := a.name)).2 ⟨hb, e.symm⟩
  rw [h1] at h2
  cases h2
  exact hv rfl
theorem mems_len_le {ds es : List D} (hn : NoDup ds) (h : ∀ m ∈ mems ds, m ∈ mems es) : (mems ds).length ≤ (mems es).length := by
  have := nodup_le (l2 := (mems es).map D.name) (mems_names hn) (fun x hx => by
    obtain ⟨m, hm, rfl⟩ := List.mem_map.1 hx
    exact List.mem_map_of_mem (h m hm))
  simpa using this
structure SortL (ds ms : List D) : Prop where
  ve : vEnum ms = true
  up : ∀ k (h : k + 1 < ms.length) (h' : k < ms.length), ms[k].val ≤ ms[k + 1].val
  mem : ∀ m ∈ (mems ms).map (·.name), m ∈ (mems ds).map (·.name)
  len : (mems ms).length = (mems ds).length
  same : mSame ms ds = true
  two : srt ms = ms
theorem sort_law {ds : List D} (hv : vEnum ds = true) : SortL ds (srt ds) := by
  have hs := srt_same hv
  have hve := (mSame_iff.1 hs).1
  have h1 := mems_swap (ds := ds) (es := srt ds) (fun v => srt_filter ds v)
  have h2 := mems_swap (ds := srt ds) (es := ds) (fun v => (srt_filter ds v).symm)
  refine ⟨hve, fun k h h' => ?_, fun m hm => ?_, ?_, hs, srt_two ds⟩
  · exact (List.pairwise_iff_getElem.1 (srt_sorted ds)) k (k + 1) h' h (by omega)
  · obtain ⟨x, hx, rfl⟩ := List.mem_map.1 hm
    exact List.mem_map_of_mem (h1 x hx)
  · exact Nat.le_antisymm (mems_len_le (vEnum_nodup hve) h1) (mems_len_le (vEnum_nodup hv) h2)
end Go.Proofs.YteaiaglangmhbaaDoor
