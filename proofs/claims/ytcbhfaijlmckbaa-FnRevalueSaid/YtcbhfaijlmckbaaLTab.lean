import Derived.Test.YtcbhfaijlmckbaaConvN
import Derived.Test.YtcbhfaijlmckbaaLRen
namespace Go.Proofs.Ytcbhfaijlmckbaa
open Go.RowKit Go.Maps
set_option linter.unusedVariables false
set_option maxRecDepth 100000

/-! ### tables: plain facts of the laws -/
/-- What the law of looked up names asks. -/
theorem look_law {ds : List D} {ss : List Int} {s : ByteArray} (h : lkOk ds ss s = true) :
    ∃ k, ∃ hk : k < ds.length, ∃ j, ∃ hj : j < ds.length, ∃ r : Nat, ∃ hr : r < ss.length, vEnum ds = true ∧ fidx (isNm s) ds = (k : Int) ∧ fidx (isVal ds[k].val) ds = (j : Int) ∧ fidx (isVal ds[k].val) (mems ds) = (r : Int) ∧
      mLook ds ss s = ss[r] ∧ mLook ds ss ds[j].name = ss[r] ∧ lkOk ds ss ds[j].name = true := by
  have h0 := h
  unfold lkOk at h
  simp only [Bool.and_eq_true, decide_eq_true_eq] at h
  have hv := tabN_enum h.1
  rcases fidx_cases (isNm s) ds with ⟨h1, _⟩ | ⟨k, hk, h1, _, _⟩
  · omega
  obtain ⟨j, hj, hf, he, _, _⟩ := first_of (ds := ds) k hk
  obtain ⟨r, _, hr, hrk⟩ := rk_in hv hk
  have hrs : r < ss.length := by rw [tabN_len h.1]; exact hr
  have hnj := nm_first hv j hj
  have h2 : lkOk ds ss ds[j].name = true := by unfold lkOk; rw [h.1, hnj, decide_eq_true (by omega)]; rfl
  refine ⟨k, hk, j, hj, r, hrs, hv, h1, hf, hrk, ?_, ?_, h2⟩
  · unfold mLook; rw [h0, if_pos rfl, valI_at hk h1, hrk, rowR_at hrs]
  · unfold mLook; rw [h2, if_pos rfl, valI_at hj hnj, he, hrk, rowR_at hrs]
/-- What the law of new values asks. -/
structure RevL (ds : List D) (ss rs : List Int) (ms : List D) : Prop where
  ve : vEnum ms = true
  val : ∀ k (h : k < ds.length), (∃ q, ∃ hq : q < ms.length, fidx (isNm ds[k].name) ms = (q : Int) ∧ ms[q].val = mLook ds ss ds[k].name) ∧ lkOk ds ss ds[k].name = true
  again : tabN ds rs = true ∧ mReval ds rs = mRenum ds
def upTo (q : Nat) : List Int := (List.range q).map Int.ofNat
theorem upTo_len (q : Nat) : (upTo q).length = q := by unfold upTo; rw [List.length_map, List.length_range]
theorem upTo_snoc (q : Nat) : upTo (q + 1) = upTo q ++ [(q : Int)] := by unfold upTo; rw [List.range_succ, List.map_append]; rfl
theorem upTo_at {q i : Nat} (h : i < q) : (upTo q)[i]'(by rw [upTo_len]; exact h) = (i : Int) := by unfold upTo; rw [List.getElem_map, List.getElem_range]; rfl
theorem upTo_rng {q : Nat} (hq : q ≤ 1000) : ∀ t ∈ upTo q, 0 ≤ t ∧ t ≤ 1000 := by
  intro t ht
  obtain ⟨i, hi, rfl⟩ := List.mem_iff_getElem.1 ht
  rw [upTo_len] at hi
  rw [upTo_at hi]
  omega
theorem rev_law {ds : List D} {ss : List Int} (h : tabN ds ss = true) : RevL ds ss (upTo ss.length) (mReval ds ss) := by
  have hv := tabN_enum h
  have hl := tabN_len h
  have h12 := mems_12 hv
  have hms : mReval ds ss = rkL (rowR ss) ds := by unfold mReval; rw [h, if_pos rfl]
  rw [hms]
  have hr : ∀ r, r < (mems ds).length → -1000 ≤ rowR ss r ∧ rowR ss r ≤ 1000 := by
    intro r hr
    have h1 : r < ss.length := by omega
    rw [rowR_at h1]
    exact tabN_rng h _ (List.getElem_mem h1)
  have hve : vEnum (rkL (rowR ss) ds) = true := by
    have hlen := vEnum_len hv
    unfold vEnum vDefs
    have hg : goodTo (-1000) 1000 (rkL (rowR ss) ds) (rkL (rowR ss) ds).length := by
      intro i hi hii
      have hi2 : i < ds.length := by rw [rkL_len] at hi; exact hi
      have hgd := vEnum_good hv i hi2 hi2
      rw [rkL_at (rowR ss) hi2]
      obtain ⟨r, _, hrl, hrk⟩ := rk_in hv hi2
      rw [hrk]
      have hb := hr r hrl
      unfold goodAt at hgd ⊢
      simp only [Bool.and_eq_true, decide_eq_true_eq] at hgd ⊢
      refine ⟨⟨hgd.1.1, by omega, by omega⟩, ?_⟩
      have e : (rkL (rowR ss) ds).take i = (ds.take i).map fun d => (⟨d.name, rowR ss (fidx (isVal d.val) (mems ds))⟩ : D) := by unfold rkL; rw [List.map_take]
      rw [e, fidx_nm_map]
      exact hgd.2
    rw [decide_eq_true hg, decide_eq_true (by rw [rkL_len]; exact hlen)]
    rfl
  refine ⟨hve, ?_, ?_⟩
  · intro k hk
    have hn := nm_first hv k hk
    have h2 : lkOk ds ss ds[k].name = true := by unfold lkOk; rw [h, hn, decide_eq_true (by omega)]; rfl
    have hk2 : k < (rkL (rowR ss) ds).length := by rw [rkL_len]; exact hk
    refine ⟨⟨k, hk2, ?_, ?_⟩, h2⟩
    · have e : ds[k].name = ((rkL (rowR ss) ds)[k]).name := by rw [rkL_at (rowR ss) hk]
      rw [e]; exact nm_first hve k hk2
    · rw [rkL_at (rowR ss) hk]
      unfold mLook
      rw [h2, if_pos rfl, valI_at hk hn]
  · have ht : tabN ds (upTo ss.length) = true := by
      unfold tabN tabOk
      rw [hv, upTo_len, hl]
      have h3 : (mMembers ds).length = (mems ds).length := by rw [mMembers_yes hv, List.length_map]
      rw [h3, decide_eq_true rfl]
      have h4 : (upTo (mems ds).length).any bey = false := by
        rw [List.any_eq_false]
        intro t ht
        have := upTo_rng (by omega) t ht
        unfold bey
        simp; omega
      rw [h4]; rfl
    refine ⟨ht, ?_⟩
    unfold mReval mRenum byR
    rw [ht, hv, if_pos rfl, if_pos rfl]
    unfold rkL
    refine List.map_congr_left fun d hd => ?_
    obtain ⟨k, hk, rfl⟩ := List.mem_iff_getElem.1 hd
    obtain ⟨r, _, hrl, hrk⟩ := rk_in hv hk
    rw [hrk]
    have h5 : r < (upTo ss.length).length := by rw [upTo_len]; omega
    rw [rowR_at h5, upTo_at (by omega)]
    rfl
end Go.Proofs.Ytcbhfaijlmckbaa
