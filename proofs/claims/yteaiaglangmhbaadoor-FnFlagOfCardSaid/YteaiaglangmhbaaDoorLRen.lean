import Derived.Test.YteaiaglangmhbaaDoorConvP
import Derived.Test.YteaiaglangmhbaaDoorLGap
import Derived.Test.YteaiaglangmhbaaDoorLBase
namespace Go.Proofs.YteaiaglangmhbaaDoor
open Go.RowKit Go.Maps
set_option linter.unusedVariables false
set_option maxRecDepth 100000

/-! ### renumbered enumerations: plain facts -/
def rk (ds : List D) (v : Int) : Int := fidx (isVal v) (mems ds)
def ren (ds : List D) (d : D) : D := ⟨d.name, rk ds d.val⟩
theorem ren_is (ds : List D) : rkL idR ds = ds.map (ren ds) := rfl
theorem ren_at {ds : List D} {k : Nat} (hk : k < (rkL idR ds).length) : (rkL idR ds)[k] = ren ds (ds[k]'(by rw [rkL_len] at hk; exact hk)) := by
  simp only [ren_is, List.getElem_map]
theorem rk_mem {ds : List D} {r : Nat} (hr : r < (mems ds).length) : rk ds (mems ds)[r].val = (r : Int) := (rank_iff hr _).2 rfl
theorem rk_inj {ds : List D} {d e : D} (hd : d ∈ ds) (he : e ∈ ds) : rk ds d.val = rk ds e.val ↔ d.val = e.val := by
  constructor
  · intro h
    obtain ⟨i, hi, rfl⟩ := List.mem_iff_getElem.1 hd
    obtain ⟨r, hr, h1⟩ := rank_in i hi
    have h2 := (rank_iff hr _).1 h1
    have h3 := (rank_iff hr e.val).1 (by rw [← h1]; exact h.symm)
    rw [h2, h3]
  · intro h; rw [h]
theorem ren_memAt {ds : List D} {k : Nat} (hk : k < ds.length) : memAt (rkL idR ds) k (ren ds ds[k]) = memAt ds k ds[k] := by
  unfold memAt
  rw [ren_is, ← List.map_take, List.any_map]
  congr 1
  rw [Bool.eq_iff_iff, List.any_eq_true, List.any_eq_true]
  constructor
  · rintro ⟨x, hx, h⟩
    refine ⟨x, hx, ?_⟩
    simp only [Function.comp] at h
    unfold isVal ren at h
    simp only [beq_iff_eq] at h
    have := (rk_inj (List.mem_of_mem_take hx) (List.getElem_mem hk)).1 h
    unfold isVal; simpa using this
  · rintro ⟨x, hx, h⟩
    refine ⟨x, hx, ?_⟩
    simp only [Function.comp]
    unfold isVal ren
    unfold isVal at h
    simp only [beq_iff_eq] at h ⊢
    rw [h]
theorem ren_memTo (ds : List D) (k : Nat) (hk : k ≤ ds.length) : memTo (rkL idR ds) k = (memTo ds k).map (ren ds) := by
  induction k with
  | zero => rfl
  | succ k ih =>
    have h1 : k < (rkL idR ds).length := by rw [rkL_len]; omega
    rw [memTo_succ _ k h1, memTo_succ ds k (by omega), List.map_append, ih (by omega), ren_at h1, ren_memAt (by omega)]
    congr 1
    cases memAt ds k ds[k] <;> rfl
theorem ren_mems (ds : List D) : mems (rkL idR ds) = (mems ds).map (ren ds) := by
  unfold mems
  rw [rkL_len]
  exact ren_memTo ds ds.length (Nat.le_refl _)
theorem ren_val {ds : List D} (hv : vEnum ds = true) {d : D} (h : d ∈ rkL idR ds) : ∃ r : Nat, r < 12 ∧ r < (mems ds).length ∧ d.val = (r : Int) := by
  rw [ren_is] at h
  obtain ⟨x, hx, rfl⟩ := List.mem_map.1 h
  obtain ⟨k, hk, rfl⟩ := List.mem_iff_getElem.1 hx
  obtain ⟨r, h1, h2, h3⟩ := rk_in hv hk
  exact ⟨r, h1, h2, h3⟩
theorem ren_enum {ds : List D} (hv : vEnum ds = true) : vEnum (rkL idR ds) = true := by
  have hl := vEnum_len hv
  unfold vEnum vDefs
  have hg : goodTo (-1000) 1000 (rkL idR ds) (rkL idR ds).length := by
    intro i hi hii
    have hi2 : i < ds.length := by rw [rkL_len] at hi; exact hi
    have hgd := vEnum_good hv i hi2 hi2
    rw [rkL_at idR hi2]
    obtain ⟨r, hr, _, hrk⟩ := rk_in hv hi2
    rw [hrk]
    unfold goodAt at hgd ⊢
    simp only [Bool.and_eq_true, decide_eq_true_eq] at hgd ⊢
    refine ⟨⟨hgd.1.1, by unfold idR; omega, by unfold idR; omega⟩, ?_⟩
    have e : (rkL idR ds).take i = (ds.take i).map fun d => (⟨d.name, idR (fidx (isVal d.val) (mems ds))⟩ : D) := by unfold rkL; rw [List.map_take]
    rw [e, fidx_nm_map]
    exact hgd.2
  rw [decide_eq_true hg, decide_eq_true (by rw [rkL_len]; exact hl)]
  rfl
/-- What the law of renumbered enumerations asks. -/
structure RenuL (ds ms : List D) (ns : List ByteArray) : Prop where
  ve : vEnum ms = true
  mem : mMembers ms = ns
  mem0 : mMembers ds = ns
  at_ : ∀ k (h : k < ns.length), ∃ j, ∃ hj : j < ms.length, fidx (isNm ns[k]) ms = (j : Int) ∧ ms[j].val = (k : Int)
  gaps : mGaps ms = []
  same : mRenum ms = ms
theorem ren_names {ds : List D} (hv : vEnum ds = true) : mMembers (rkL idR ds) = mMembers ds := by
  rw [mMembers_yes hv, mMembers_yes (ren_enum hv), ren_mems, List.map_map]
  rfl
theorem ren_law {ds : List D} (hv : vEnum ds = true) : RenuL ds (mRenum ds) (mMembers ds) := by
  have hm : mRenum ds = rkL idR ds := by unfold mRenum byR; rw [hv, if_pos rfl]
  rw [hm]
  have hve := ren_enum hv
  have hat : ∀ r (hr : r < (mems ds).length), ∃ j, ∃ hj : j < (rkL idR ds).length, (rkL idR ds)[j].name = (mems ds)[r].name ∧ (rkL idR ds)[j].val = (r : Int) := by
    intro r hr
    obtain ⟨i, hi, e⟩ := List.mem_iff_getElem.1 (memTo_in ds _ _ (List.getElem_mem hr))
    refine ⟨i, by rw [rkL_len]; exact hi, ?_, ?_⟩
    · rw [ren_at (by rw [rkL_len]; exact hi)]
      show ds[i].name = _
      rw [e]
    · rw [ren_at (by rw [rkL_len]; exact hi)]
      show rk ds ds[i].val = _
      rw [e]; exact rk_mem hr
  refine ⟨hve, ren_names hv, rfl, ?_, ?_, ?_⟩
  · intro k hk
    have hk2 : k < (mems ds).length := by rw [mMembers_yes hv, List.length_map] at hk; exact hk
    obtain ⟨j, hj, h1, h2⟩ := hat k hk2
    refine ⟨j, hj, ?_, h2⟩
    have : (mMembers ds)[k] = (rkL idR ds)[j].name := by rw [h1]; simp only [mMembers_yes hv, List.getElem_map]
    rw [this]; exact nm_first hve j hj
  · by_cases hne : rkL idR ds = []
    · exact mGaps_no (.inr hne)
    have hz : ∀ q, q ≤ (hi (rkL idR ds) - lo (rkL idR ds)).toNat → gapsTo (rkL idR ds) (lo (rkL idR ds)) q = [] := by
      intro q hq
      refine List.eq_nil_iff_forall_not_mem.2 fun t ht => ?_
      have h1 := gapsTo_none _ _ _ t ht
      have h2 := gapsTo_in _ _ _ t ht
      obtain ⟨d1, hd1, e1⟩ := loTo_in (rkL idR ds) hne _ (Nat.le_refl _)
      obtain ⟨d2, hd2, e2⟩ := hiTo_in (rkL idR ds) hne _ (Nat.le_refl _)
      obtain ⟨r1, _, _, f1⟩ := ren_val hv hd1
      obtain ⟨r2, _, hr2, f2⟩ := ren_val hv hd2
      have g1 : lo (rkL idR ds) = (r1 : Int) := by unfold lo; rw [← e1, f1]
      have g2 : hi (rkL idR ds) = (r2 : Int) := by unfold hi; rw [← e2, f2]
      rw [g1, g2] at hq
      rw [g1] at h2
      obtain ⟨T, rfl⟩ := Int.eq_ofNat_of_zero_le (show 0 ≤ t by omega)
      obtain ⟨j, hj, _, h4⟩ := hat T (by omega)
      have h5 := fidx_of_mem (List.getElem_mem hj)
      rw [h4] at h5
      exact h5 h1
    by_cases hb : 30 < (gapsTo (rkL idR ds) (lo (rkL idR ds)) (hi (rkL idR ds) - lo (rkL idR ds)).toNat).length
    · exact mGaps_many hve hne _ (Nat.le_refl _) hb
    · rw [mGaps_few hve hne hb]; exact hz _ (Nat.le_refl _)
  · unfold mRenum byR
    rw [hve, if_pos rfl]
    refine List.ext_getElem (rkL_len _ _) fun i h1 h2 => ?_
    rw [rkL_at idR h2]
    obtain ⟨r, _, hr, h3⟩ := ren_val hv (List.getElem_mem h2)
    have hr2 : r < (mems (rkL idR ds)).length := by rw [ren_mems, List.length_map]; exact hr
    have h4 : (mems (rkL idR ds))[r].val = (r : Int) := by simp only [ren_mems, List.getElem_map]; exact rk_mem hr
    have h5 : fidx (isVal (rkL idR ds)[i].val) (mems (rkL idR ds)) = (r : Int) := (rank_iff hr2 _).2 (by rw [h3, h4])
    rw [h5]
    show (⟨(rkL idR ds)[i].name, (r : Int)⟩ : D) = _
    rw [← h3]
end Go.Proofs.YteaiaglangmhbaaDoor
