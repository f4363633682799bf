import Derived.Test.YtbkfagncoekbkaaMissP
import Derived.Test.YtbkfagncoekbkaaLAlgT
import Derived.Test.YtbkfagncoekbkaaLBase
namespace Go.Proofs.Ytbkfagncoekbkaa
open Go.RowKit Go.Maps
set_option linter.unusedVariables false
set_option maxRecDepth 100000

/-! ### what the law of missed members asks -/
structure MissL (ds : List D) (ss out : List ByteArray) : Prop where
  ve : vEnum ds = true
  at_ : ∀ k (h : k < out.length), ∃ j, ∃ hj : j < ds.length, out[k] = ds[j].name ∧ fidx (isNm ds[j].name) ds = (j : Int) ∧ (mMembers ds).any (hT ds[j].name) = true ∧
    ∀ i (hi : i < ss.length), ∃ m, ∃ hm : m < ds.length, fidx (isNm ss[i]) ds = (m : Int) ∧ ds[m].val ≠ ds[j].val
  none_ : mMissM ds (ss ++ out) = []
theorem miss_law {ds : List D} {ss : List ByteArray} (h : 0 < (mMissM ds ss).length) : MissL ds ss (mMissM ds ss) := by
  have hok : mMissOk ds ss = true := by
    cases e : mMissOk ds ss
    · unfold mMissM at h; rw [e] at h; simp at h
    · rfl
  have e : mMissM ds ss = ((mems ds).filter fun d => !metV ds ss d.val).map (·.name) := by
    unfold mMissM missD
    rw [hok, if_pos rfl, List.take_of_length_le (Nat.le_refl _)]
  have hok2 := hok
  unfold mMissOk at hok2
  rw [Bool.and_eq_true] at hok2
  obtain ⟨hv, ha⟩ := hok2
  have hmem : ∀ d ∈ mems ds, ∃ j, ∃ hj : j < ds.length, d = ds[j] ∧ fidx (isNm ds[j].name) ds = (j : Int) := by
    intro d hd
    obtain ⟨r, hr, rfl⟩ := List.mem_iff_getElem.1 hd
    obtain ⟨j, hj, e1, _⟩ := mems_get ds r hr
    exact ⟨j, hj, e1, name_idx hv j hj⟩
  have hall : ∀ s ∈ ss, ∃ m, ∃ hm : m < ds.length, fidx (isNm s) ds = (m : Int) := by
    intro s hs
    unfold allN at ha
    have := List.all_eq_true.1 ha s hs
    have h0 : 0 ≤ fidx (isNm s) ds := by simpa using this
    rcases fidx_cases (isNm s) ds with ⟨h1, _⟩ | ⟨m, hm, h1, _, _⟩
    · omega
    · exact ⟨m, hm, h1⟩
  rw [e]
  refine ⟨hv, ?_, ?_⟩
  · intro k hk
    have hk2 : k < ((mems ds).filter fun d => !metV ds ss d.val).length := by simpa using hk
    rw [List.getElem_map]
    have hm := List.getElem_mem hk2
    generalize ((mems ds).filter fun d => !metV ds ss d.val)[k] = d at *
    obtain ⟨h1, h2⟩ := List.mem_filter.1 hm
    obtain ⟨j, hj, rfl, hn⟩ := hmem d h1
    refine ⟨j, hj, rfl, hn, ?_, ?_⟩
    · rw [mMembers_yes hv, List.any_eq_true]
      exact ⟨ds[j].name, List.mem_map.2 ⟨_, h1, rfl⟩, hT_iff.2 rfl⟩
    · intro i hi
      obtain ⟨m, hm, hmi⟩ := hall _ (List.getElem_mem hi)
      refine ⟨m, hm, hmi, fun he => ?_⟩
      have h3 : metV ds ss ds[j].val = true := by
        unfold metV
        rw [List.any_eq_true]
        exact ⟨ss[i], List.getElem_mem hi, by rw [valI_at hm hmi, he]; simp⟩
      rw [h3] at h2
      simp at h2
  · generalize hout : ((mems ds).filter fun d => !metV ds ss d.val).map (·.name) = out
    have h1 : mMissOk ds (ss ++ out) = true := by
      unfold mMissOk
      rw [hv, allN_app, ha, Bool.true_and, Bool.true_and]
      unfold allN
      rw [List.all_eq_true]
      intro s hs
      rw [← hout] at hs
      obtain ⟨d, hd, rfl⟩ := List.mem_map.1 hs
      obtain ⟨j, hj, rfl, hn⟩ := hmem d (List.mem_filter.1 hd).1
      rw [hn]; simp
    unfold mMissM missD
    rw [h1, if_pos rfl, List.take_of_length_le (Nat.le_refl _)]
    rw [List.map_eq_nil_iff, List.filter_eq_nil_iff]
    intro d hd hm
    have h2 : metV ds (ss ++ out) d.val = true := by
      unfold metV
      rw [List.any_append]
      cases h3 : metV ds ss d.val
      · have h4 : d.name ∈ out := by
          rw [← hout]
          exact List.mem_map.2 ⟨d, List.mem_filter.2 ⟨hd, by rw [h3]; rfl⟩, rfl⟩
        obtain ⟨j, hj, rfl, hn⟩ := hmem d hd
        rw [Bool.or_eq_true]
        right
        rw [List.any_eq_true]
        exact ⟨_, h4, by rw [valI_at hj hn]; simp⟩
      · unfold metV at h3; rw [h3]; rfl
    rw [h2] at hm
    simp at hm
theorem one_S (xs : List ByteArray) : ∀ u ∈ xs.flatMap encS, u.oneCell' = true := by
  intro u hu
  obtain ⟨s, _, h⟩ := List.mem_flatMap.1 hu
  rw [List.mem_singleton.1 h]; rfl
theorem flatS_flat (xs : List ByteArray) : flatS xs = xs.flatMap encS := by
  induction xs with
  | nil => rfl
  | cons x r ih => rw [List.flatMap_cons, ← ih]; rfl
theorem SS.sl {w : World} {B n c : Nat} {A : Option Addr} {ss : List ByteArray} (h : SS w B A n c ss) : SL encS 1 w B A n c ss := ⟨h.rd, h.len, h.cap, h.max⟩
end Go.Proofs.Ytbkfagncoekbkaa
