import Derived.Test.YtnaojafidhloeaaMemOf
import Derived.Test.YtnaojafidhloeaaNmOf
namespace Go.Proofs.Ytnaojafidhloeaa
open Go.RowKit Go.Maps
set_option linter.unusedVariables false
set_option maxRecDepth 100000

/-! ### plain facts -/
theorem fidx_congr {α : Type} {p q : α → Bool} {l : List α} (h : ∀ x ∈ l, p x = q x) : fidx p l = fidx q l := by
  rcases fidx_cases p l with ⟨h1, hn⟩ | ⟨k, hk, h1, hp, hn⟩
  · rw [h1, fidx_none (p := q) (fun i hi hk => by rw [← h _ (List.getElem_mem hi)]; exact hn i hi hk)]
  · rw [h1, fidx_some (p := q) (k := k) (fun i hi hik => by rw [← h _ (List.getElem_mem hi)]; exact hn i hi hik) hk (by rw [← h _ (List.getElem_mem hk)]; exact hp)]
theorem fidx_map {α β : Type} (f : α → β) (p : β → Bool) (l : List α) : fidx p (l.map f) = fidx (fun x => p (f x)) l := by
  unfold fidx
  rw [List.findIdx?_map]
  rfl
theorem memTo_mem (ds : List D) (k : Nat) (hk : k ≤ ds.length) (d : D) (h : d ∈ memTo ds k) : ∃ i, ∃ hi : i < ds.length, i < k ∧ ds[i] = d ∧ memAt ds i d = true := by
  induction k with
  | zero => cases h
  | succ k ih =>
    rw [memTo_succ ds k (by omega)] at h
    rcases List.mem_append.1 h with h | h
    · obtain ⟨i, hi, h1, h2⟩ := ih (by omega) h
      exact ⟨i, hi, by omega, h2⟩
    · by_cases hm : memAt ds k ds[k]
      · rw [if_pos hm] at h
        simp at h
        subst h
        exact ⟨k, by omega, by omega, rfl, hm⟩
      · rw [if_neg hm] at h; cases h
theorem memTo_has (ds : List D) (k : Nat) (hk : k ≤ ds.length) (i : Nat) (hi : i < ds.length) (hik : i < k) (hm : memAt ds i ds[i] = true) : ds[i] ∈ memTo ds k := by
  induction k with
  | zero => omega
  | succ k ih =>
    rw [memTo_succ ds k (by omega)]
    by_cases e : i = k
    · subst e; rw [if_pos hm]; simp
    · exact List.mem_append_left _ (ih (by omega) (by omega))
theorem names_apart {ds : List D} (hv : vEnum ds = true) (i j : Nat) (hi : i < ds.length) (hj : j < ds.length) (e : ds[i].name = ds[j].name) : i = j := by
  have key : ∀ i j (hi : i < ds.length) (hj : j < ds.length), ds[i].name = ds[j].name → ¬ i < j := by
    intro i j hi hj e hij
    have h := vEnum_good hv j hj hj
    unfold goodAt at h
    simp only [Bool.and_eq_true, decide_eq_true_eq] at h
    have h2 := h.2
    rcases fidx_cases (isNm ds[j].name) (ds.take j) with ⟨h1, hn⟩ | ⟨m, hm, h1, _⟩
    · have h3 := hn i (by simp; omega) (by simp; omega)
      rw [List.getElem_take] at h3
      have : isNm ds[j].name ds[i] = true := isNm_iff.2 e
      rw [this] at h3; cases h3
    · omega
  rcases Nat.lt_trichotomy i j with h | h | h
  · exact absurd h (key i j hi hj e)
  · exact h
  · exact absurd h (key j i hj hi e.symm)
/-- Among members the value tells the name. -/
theorem mem_value_name {ds : List D} (hv : vEnum ds = true) (j : Nat) (hj : j < ds.length) (hx : fidx (isVal ds[j].val) ds = j) (d : D) (hd : d ∈ mems ds) : isVal ds[j].val d = isNm ds[j].name d := by
  obtain ⟨i, hi, _, rfl, hm⟩ := memTo_mem ds _ (Nat.le_refl _) d hd
  rw [Bool.eq_iff_iff, isNm_iff]
  have h1 := mem_first ds i hi
  rw [hm] at h1
  simp at h1
  constructor
  · intro h
    unfold isVal at h
    simp at h
    rw [h] at h1
    obtain rfl : i = j := by omega
    rfl
  · intro h
    obtain rfl := names_apart hv i j hi hj h
    unfold isVal; simp
theorem first_of {ds : List D} (k : Nat) (hk : k < ds.length) : ∃ j, ∃ hj : j < ds.length, fidx (isVal ds[k].val) ds = (j : Int) ∧ ds[j].val = ds[k].val ∧ memAt ds j ds[j] = true ∧ j ≤ k := by
  rcases fidx_cases (isVal ds[k].val) ds with ⟨h1, hn⟩ | ⟨j, hj, h1, hp, hn⟩
  · have := hn k hk hk; unfold isVal at this; simp at this
  · have e : ds[j].val = ds[k].val := by unfold isVal at hp; simpa using hp
    refine ⟨j, hj, h1, e, ?_, ?_⟩
    · rw [← mem_first ds j hj, e, h1]; simp
    · rcases Nat.lt_or_ge k j with h | h
      · have := hn k hk h; unfold isVal at this; simp at this
      · exact h
theorem rank_in {ds : List D} (k : Nat) (hk : k < ds.length) : ∃ r : Nat, ∃ _ : r < (mems ds).length, fidx (isVal ds[k].val) (mems ds) = (r : Int) := by
  obtain ⟨j, hj, _, e, hm, _⟩ := first_of k hk
  rcases fidx_cases (isVal ds[k].val) (mems ds) with ⟨h1, hn⟩ | ⟨r, hr, h1, _⟩
  · have hin := memTo_has ds ds.length (Nat.le_refl _) j hj hj hm
    obtain ⟨i, hi, e2⟩ := List.mem_iff_getElem.1 hin
    have h3 := hn i hi hi
    have h4 : (mems ds)[i] = ds[j] := e2
    rw [h4] at h3
    unfold isVal at h3
    simp at h3
    exact absurd e h3
  · exact ⟨r, hr, h1⟩

/-! ### slices.Index over texts -/
def isT (s t : ByteArray) : Bool := s.toList == t.toList
/-! ### RankOf -/
/-! ### NextMember -/
theorem next_lt {m r : Nat} (h : r < m) : (r + 1) % m < m := Nat.mod_lt _ (by omega)

end Go.Proofs.Ytnaojafidhloeaa
