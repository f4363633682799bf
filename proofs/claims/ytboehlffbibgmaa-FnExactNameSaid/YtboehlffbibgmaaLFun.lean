import Derived.Test.YtboehlffbibgmaaOthers
namespace Go.Proofs.Ytboehlffbibgmaa
open Go.RowKit
set_option linter.unusedVariables false
set_option maxRecDepth 100000

/-! ### names, values and members: what the laws need -/
theorem name_idx {ds : List D} (hv : vEnum ds = true) (j : Nat) (hj : j < ds.length) : fidx (isNm ds[j].name) ds = (j : Int) :=
  fidx_some (fun i hi hij => by
    cases e : isNm ds[j].name ds[i]
    · rfl
    · exact absurd (names_apart hv i j hi hj (isNm_iff.1 e)) (by omega)) hj (isNm_iff.2 rfl)
theorem val_idx {ds : List D} {n : Int} {k : Nat} (hk : k < ds.length) (h : fidx (isVal n) ds = (k : Int)) : ds[k].val = n := by
  rcases fidx_cases (isVal n) ds with ⟨h1, _⟩ | ⟨j, hj, h1, hp, _⟩
  · omega
  · obtain rfl : j = k := by omega
    unfold isVal at hp; simpa using hp
theorem nm_idx {ds : List D} {s : ByteArray} {k : Nat} (hk : k < ds.length) (h : fidx (isNm s) ds = (k : Int)) : ds[k].name = s := by
  rcases fidx_cases (isNm s) ds with ⟨h1, _⟩ | ⟨j, hj, h1, hp, _⟩
  · omega
  · obtain rfl : j = k := by omega
    exact isNm_iff.1 hp
theorem mems_get (ds : List D) (i : Nat) (hi : i < (mems ds).length) : ∃ j, ∃ hj : j < ds.length, (mems ds)[i] = ds[j] ∧ fidx (isVal ds[j].val) ds = (j : Int) := by
  obtain ⟨j, hj, _, e, hm⟩ := memTo_mem ds _ (Nat.le_refl _) _ (List.getElem_mem hi)
  refine ⟨j, hj, e.symm, ?_⟩
  have h := mem_first ds j hj
  rw [show memAt ds j ds[j] = true by rw [e]; exact hm] at h
  simpa using h
theorem mems_has {ds : List D} (j : Nat) (hj : j < ds.length) (h : fidx (isVal ds[j].val) ds = (j : Int)) : ds[j] ∈ mems ds := by
  refine memTo_has ds ds.length (Nat.le_refl _) j hj hj ?_
  rw [← mem_first ds j hj, h]; simp
theorem mems_pair (ds : List D) (k : Nat) (hk : k ≤ ds.length) : (memTo ds k).Pairwise (fun a b => a.val ≠ b.val) := by
  induction k with
  | zero => exact List.Pairwise.nil
  | succ k ih =>
    rw [memTo_succ ds k (by omega), List.pairwise_append]
    refine ⟨ih (by omega), ?_, ?_⟩
    · split
      · exact List.pairwise_singleton _ _
      · exact List.Pairwise.nil
    · intro a ha b hb
      split at hb
      · rename_i hm
        simp at hb
        subst hb
        obtain ⟨i, hi, hik, rfl, _⟩ := memTo_mem ds k (by omega) a ha
        intro e
        rw [memAt_iff, decide_eq_true_eq] at hm
        rcases fidx_cases (isVal ds[k].val) (ds.take k) with ⟨h1, hn⟩ | ⟨m, hm1, h1, _⟩
        · have h3 := hn i (by simp; omega) (by simp; omega)
          rw [List.getElem_take] at h3
          unfold isVal at h3
          simp at h3
          exact h3 e
        · omega
      · cases hb
theorem rank_mem (ds : List D) (i : Nat) (hi : i < (mems ds).length) : fidx (isVal (mems ds)[i].val) (mems ds) = (i : Int) := by
  refine fidx_some (fun m hm hmi => ?_) hi (by unfold isVal; simp)
  have := (List.pairwise_iff_getElem.1 (mems_pair ds ds.length (Nat.le_refl _))) m i hm hi hmi
  unfold isVal
  exact beq_eq_false_iff_ne.2 this
theorem rank_get {ds : List D} {v : Int} (j : Nat) (hj : j < ds.length) (hf : fidx (isVal v) ds = (j : Int)) (r : Nat) (hr : r < (mems ds).length) (h : fidx (isVal v) (mems ds) = (r : Int)) : (mems ds)[r] = ds[j] := by
  obtain ⟨j', hj', e, hf'⟩ := mems_get ds r hr
  have e1 := val_idx hj hf
  have e2 : (mems ds)[r].val = v := val_idx (ds := mems ds) hr h
  rw [e] at e2
  rw [e2, hf] at hf'
  obtain rfl : j = j' := by omega
  exact e

/-! ### as many as there are names -/
theorem one_zero {ms : List D} {v : Int} (h : ∀ m ∈ ms, m.val ≠ v) : (ms.map fun m => if m.val = v then 1 else 0).sum = 0 := by
  induction ms with
  | nil => rfl
  | cons m ms ih =>
    rw [List.map_cons, List.sum_cons, ih (fun x hx => h x (List.mem_cons_of_mem _ hx)), if_neg (h m (List.mem_cons_self))]
theorem one_one {ms : List D} {v : Int} (hp : ms.Pairwise (fun a b => a.val ≠ b.val)) (h : ∃ m ∈ ms, m.val = v) : (ms.map fun m => if m.val = v then 1 else 0).sum = 1 := by
  induction ms with
  | nil => obtain ⟨m, hm, _⟩ := h; cases hm
  | cons m ms ih =>
    rw [List.pairwise_cons] at hp
    rw [List.map_cons, List.sum_cons]
    by_cases e : m.val = v
    · rw [if_pos e, one_zero (fun x hx hxe => hp.1 x hx (e.trans hxe.symm))]
    · rw [if_neg e, ih hp.2 (by
        obtain ⟨x, hx, hxe⟩ := h
        rcases List.mem_cons.1 hx with rfl | hx
        · exact absurd hxe e
        · exact ⟨x, hx, hxe⟩)]
theorem sum_add (ms : List D) (f g : D → Nat) : (ms.map fun m => f m + g m).sum = (ms.map f).sum + (ms.map g).sum := by
  induction ms with
  | nil => rfl
  | cons m ms ih => simp only [List.map_cons, List.sum_cons, ih]; omega
theorem count_all {ms : List D} (hp : ms.Pairwise (fun a b => a.val ≠ b.val)) (l : List D) (h : ∀ d ∈ l, ∃ m ∈ ms, m.val = d.val) : (ms.map fun m => l.countP (isVal m.val)).sum = l.length := by
  induction l with
  | nil =>
    simp only [List.countP_nil, List.length_nil]
    clear hp h
    induction ms with
    | nil => rfl
    | cons m ms ih => rw [List.map_cons, List.sum_cons, ih]
  | cons d l ih =>
    have e : (fun m : D => (d :: l).countP (isVal m.val)) = fun m => l.countP (isVal m.val) + if m.val = d.val then 1 else 0 := by
      funext m
      rw [List.countP_cons]
      congr 1
      by_cases e : m.val = d.val
      · rw [if_pos e, if_pos (by unfold isVal; simp [e])]
      · rw [if_neg e, if_neg (by unfold isVal; simp; exact fun h => e h.symm)]
    rw [e, sum_add, ih (fun x hx => h x (List.mem_cons_of_mem _ hx)), one_one hp (h d (List.mem_cons_self)), List.length_cons]
theorem othTo_count (ds : List D) (v : Int) (j : Nat) (hj : j < ds.length) (hjv : isVal v ds[j] = true) (k : Nat) (hk : k ≤ ds.length) : (othTo ds v j k).length + (if j < k then 1 else 0) = (ds.take k).countP (isVal v) := by
  induction k with
  | zero => simp [othTo]
  | succ k ih =>
    have ih := ih (by omega)
    rw [othTo_succ ds v j k (by omega), List.take_succ_eq_append_getElem (by omega), List.countP_append, ← ih, List.length_append]
    by_cases e : k = j
    · subst e
      rw [if_pos (show k < k + 1 by omega), if_neg (show ¬ k < k by omega), hjv]
      simp [hjv]
    · have e2 : (if j < k + 1 then 1 else 0) = if j < k then 1 else 0 := by
        by_cases h : j < k
        · rw [if_pos h, if_pos (by omega)]
        · rw [if_neg h, if_neg (by omega)]
      rw [e2]
      have e3 : (k != j) = true := by simpa using e
      rw [e3]
      cases hv : isVal v ds[k] <;> simp [hv] <;> omega
/-- How many other names the first k members have. -/
def othSum (ds : List D) (k : Nat) : Nat := (((mems ds).take k).map fun m => (mOthers ds m.name).length).sum
theorem othSum_succ (ds : List D) (k : Nat) (h : k < (mems ds).length) : othSum ds (k + 1) = othSum ds k + (mOthers ds (mems ds)[k].name).length := by
  unfold othSum
  rw [List.take_succ_eq_append_getElem h, List.map_append, List.sum_append]
  simp
theorem othSum_all {ds : List D} (hv : vEnum ds = true) : (mems ds).length + othSum ds (mems ds).length = ds.length := by
  have h1 := count_all (mems_pair ds ds.length (Nat.le_refl _)) ds (fun d hd => by
    obtain ⟨k, hk, rfl⟩ := List.mem_iff_getElem.1 hd
    obtain ⟨j, hj, _, e, hm, _⟩ := first_of k hk
    exact ⟨ds[j], memTo_has ds ds.length (Nat.le_refl _) j hj hj hm, e⟩)
  have h2 : ((mems ds).map fun m => ds.countP (isVal m.val)) = (mems ds).map fun m => (mOthers ds m.name).length + 1 := by
    refine List.map_congr_left fun m hm => ?_
    obtain ⟨i, hi, rfl⟩ := List.mem_iff_getElem.1 hm
    obtain ⟨j, hj, e, hf⟩ := mems_get ds i hi
    rw [e, mOthers_yes hv j hj (name_idx hv j hj) j hf]
    have := othTo_count ds ds[j].val j hj (by unfold isVal; simp) ds.length (Nat.le_refl _)
    rw [if_pos hj, List.take_of_length_le (Nat.le_refl _)] at this
    exact this.symm
  have h3 : ((mems ds).map fun m => (mOthers ds m.name).length + 1).sum = othSum ds (mems ds).length + (mems ds).length := by
    rw [sum_add]
    unfold othSum
    rw [List.take_of_length_le (Nat.le_refl _)]
    congr 1
    generalize mems ds = ms
    induction ms with
    | nil => rfl
    | cons m ms ih => rw [List.map_cons, List.sum_cons, ih, List.length_cons]; omega
  have h4 : ((mems ds).map fun m => ds.countP (isVal m.val)).sum = ds.length := h1
  rw [h2, h3] at h4
  omega
/-- An other name is a name with the value, and no member. -/
theorem othTo_mem (ds : List D) (v : Int) (j k : Nat) (hk : k ≤ ds.length) : ∀ t ∈ othTo ds v j k, ∃ i, ∃ hi : i < ds.length, ds[i].name = t ∧ ds[i].val = v ∧ i ≠ j := by
  induction k with
  | zero => intro t h; cases h
  | succ k ih =>
    intro t h
    rw [othTo_succ ds v j k (by omega)] at h
    rcases List.mem_append.1 h with h | h
    · exact ih (by omega) t h
    · split at h
      · rename_i hc
        simp at h
        simp [isVal] at hc
        exact ⟨k, by omega, h.symm, hc.1, hc.2⟩
      · cases h
end Go.Proofs.Ytboehlffbibgmaa
