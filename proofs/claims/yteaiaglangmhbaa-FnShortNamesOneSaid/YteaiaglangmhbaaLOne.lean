import Derived.Test.YteaiaglangmhbaaLFew
import Derived.Test.YteaiaglangmhbaaShowA
namespace Go.Proofs.Yteaiaglangmhbaa
open Go.RowKit Go.Maps
set_option linter.unusedVariables false
set_option maxRecDepth 100000

/-! ### names of their own are shortest -/
theorem few_one : ∀ (l : List D) (a : Nat), few l 1 a = (l.find? fun d => decide (nl a d.val.toNat = 0)).map fun d => [d] := by
  intro l a
  induction l with
  | nil => rfl
  | cons d r ih =>
    rw [few_cons, few_zero, List.find?_cons]
    by_cases h : nl a d.val.toNat = 0
    · rw [if_pos h, decide_eq_true h]; rfl
    · rw [if_neg h, decide_eq_false h]; exact ih
theorem find_congr {α : Type} {p q : α → Bool} : ∀ {l : List α}, (∀ x ∈ l, p x = q x) → l.find? p = l.find? q
  | [], _ => rfl
  | x :: r, h => by
    rw [List.find?_cons, List.find?_cons, h x (by simp), find_congr (l := r) fun y hy => h y (List.mem_cons_of_mem _ hy)]
theorem one_law {ds : List D} {b x : Int} (h : mExOk ds b x = true) (hx : x ≠ 0) : mShortN ds b x = [mExN ds b x] := by
  unfold mExOk at h
  rw [Bool.and_eq_true] at h
  obtain ⟨hfl, hj0⟩ := h
  have hj0 := of_decide_eq_true hj0
  rcases fidx_cases (isVal x) ds with ⟨h1, _⟩ | ⟨j, hj, h1, h2, h3⟩
  · omega
  have hin := vFlag_in hfl
  have hv : ds[j].val = x := by unfold isVal at h2; simpa using h2
  obtain ⟨p, hp⟩ : ∃ p : Nat, x = (p : Int) := ⟨x.toNat, by have := (hin _ (List.getElem_mem hj)).1; rw [hv] at this; omega⟩
  subst hp
  have hpv : ds[j].val.toNat = p := by rw [hv, Int.toNat_natCast]
  have hmem : ds[j] ∈ ds := List.getElem_mem hj
  have hpart : nl p (mMask ds) = 0 := by
    rw [nl_zero]
    intro i hi
    rw [mMask_tb, List.any_eq_true]
    exact ⟨ds[j], hmem, by rw [hpv]; exact hi⟩
  have hV : mIsV ds b (p : Int) = true := v_part hfl hpart
  rw [(mEx_yes hfl hj h1).2]
  unfold mShortN
  rw [hV, if_pos rfl, Int.toNat_natCast]
  have hfit : ∀ d ∈ mFit ds p, nl d.val.toNat p = 0 := fun d hd => of_decide_eq_true (List.mem_filter.1 (List.mem_filter.1 hd).1).2
  have hjL : ds[j] ∈ mFit ds p := List.mem_filter.2 ⟨List.mem_filter.2 ⟨hmem, by unfold fitIn; rw [hpv]; exact decide_eq_true (nl_zero.2 fun i h => h)⟩, by unfold hasV; rw [hv]; exact decide_eq_true hx⟩
  have hmask : mMask (mFit ds p) = p := nl_two (by
      rw [nl_zero]
      intro i hi
      rw [mMask_tb, List.any_eq_true] at hi
      obtain ⟨d, hd, hb⟩ := hi
      exact nl_zero.1 (hfit d hd) i hb) (by
      rw [nl_zero]
      intro i hi
      rw [mMask_tb, List.any_eq_true]
      exact ⟨ds[j], hjL, by rw [hpv]; exact hi⟩)
  have hfind : (mFit ds p).find? (fun d => decide (nl p d.val.toNat = 0)) = some ds[j] := by
    unfold mFit mWithin
    rw [List.find?_filter, List.find?_filter]
    have hc : ∀ d ∈ ds, (fitIn p d && (hasV d && decide (nl p d.val.toNat = 0))) = isVal (p : Int) d := by
      intro d hd
      have h0 := (hin d hd).1
      rw [Bool.eq_iff_iff, Bool.and_eq_true, Bool.and_eq_true]
      unfold isVal fitIn hasV
      rw [decide_eq_true_iff, decide_eq_true_iff, decide_eq_true_iff]
      constructor
      · rintro ⟨k1, _, k2⟩
        have := nl_two k1 k2
        have : d.val = (p : Int) := by omega
        simpa using this
      · intro k
        have k : d.val = (p : Int) := by simpa using k
        rw [k, Int.toNat_natCast]
        exact ⟨nl_zero.2 fun i h => h, hx, nl_zero.2 fun i h => h⟩
    rw [find_congr (q := isVal (p : Int)) (fun d hd => by rw [← hc d hd, Bool.eq_iff_iff]; simp)]
    exact find_idx hj h1
  have hone : few (mFit ds p) 1 p = some [ds[j]] := by rw [few_one, hfind]; rfl
  have hzero : few (mFit ds p) 0 p = none := by rw [few_zero, if_neg (by omega)]
  obtain ⟨m1, m2⟩ := short_min (mFit ds p)
  rw [hmask] at m1 m2
  generalize mShortL (mFit ds p) = M at *
  have hl : M.length = 1 := by
    by_cases e0 : M.length = 0
    · rw [e0, hzero] at m1; cases m1
    · by_cases e1 : 1 < M.length
      · have := m2 1 e1; rw [hone] at this; cases this
      · omega
  rw [hl, hone] at m1
  cases m1
  rfl
end Go.Proofs.Yteaiaglangmhbaa
