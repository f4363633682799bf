import Derived.Test.YtpmanbmhbfnefaaBaseT
import Derived.Test.YtpmanbmhbfnefaaLArm
namespace Go.Proofs.Ytpmanbmhbfnefaa
open Go.RowKit
set_option linter.unusedVariables false
set_option maxRecDepth 100000

/-! ### greatest arms: plain facts for the law -/
theorem partsG_iff {m : Nat} {x : Int} : x ∈ partsTo m (m + 1) ↔ ∃ t : Nat, x = (t : Int) ∧ nl t m = 0 := by
  constructor
  · intro h
    obtain ⟨t, e, _, h2⟩ := partsG_mem h
    exact ⟨t, e, h2⟩
  · rintro ⟨t, rfl, h2⟩
    have h1 := part_le h2
    unfold partsTo
    refine List.mem_map.2 ⟨t, List.mem_filter.2 ⟨List.mem_range.2 (by omega), ?_⟩, rfl⟩
    unfold partN
    exact decide_eq_true h2
theorem mem_armsG {m : Nat} {list : List Int} {a : Ar} : a ∈ mArmsIn m list ↔ ∃ t u : Nat, a = ⟨(t : Int), (u : Int)⟩ ∧ nl t m = 0 ∧ nl u m = 0 ∧ t &&& u = 0 ∧ okIn (partsTo m (m + 1)) list t u = true := by
  unfold mArmsIn armsA
  rw [List.mem_flatMap]
  constructor
  · rintro ⟨p, hp, ha⟩
    obtain ⟨t, rfl, ht⟩ := partsG_iff.1 hp
    rw [others_filter] at ha
    unfold rowA at ha
    obtain ⟨q, hq, rfl⟩ := List.mem_map.1 ha
    obtain ⟨hq1, hq2⟩ := List.mem_filter.1 hq
    obtain ⟨hq3, hq4⟩ := List.mem_filter.1 hq1
    obtain ⟨u, rfl, hu⟩ := partsG_iff.1 hq3
    rw [Int.toNat_natCast, decide_eq_true_iff] at hq4
    rw [Int.toNat_natCast, Int.toNat_natCast] at hq2
    exact ⟨t, u, rfl, ht, hu, hq4, hq2⟩
  · rintro ⟨t, u, rfl, ht, hu, h1, h2⟩
    refine ⟨(t : Int), partsG_iff.2 ⟨t, rfl, ht⟩, ?_⟩
    rw [others_filter]
    unfold rowA
    refine List.mem_map.2 ⟨(u : Int), List.mem_filter.2 ⟨List.mem_filter.2 ⟨partsG_iff.2 ⟨u, rfl, hu⟩, ?_⟩, ?_⟩, rfl⟩
    · rw [Int.toNat_natCast, decide_eq_true_iff]; exact h1
    · rw [Int.toNat_natCast, Int.toNat_natCast]; exact h2
theorem okIn_iff {all list : List Int} {p q : Nat} : okIn all list p q = true ↔ ∀ n ∈ all, matchN p q n.toNat = true → list.any (fun y => decide (y = n)) = true := by
  unfold okIn
  rw [List.all_eq_true]
  constructor
  · intro h n hn hm
    have := h n hn
    rw [hm, Bool.not_true, Bool.false_or] at this
    exact this
  · intro h n hn
    cases hm : matchN p q n.toNat
    · rfl
    · rw [h n hn hm]; rfl
theorem coverG_refl (p q : Nat) : coverN p q p q = true := by unfold coverN; rw [decide_eq_true (part_self p), decide_eq_true (part_self q)]; rfl
theorem coverG_iff {p q r s : Nat} : coverN p q r s = true ↔ nl p r = 0 ∧ nl q s = 0 := by unfold coverN; simp only [Bool.and_eq_true, decide_eq_true_eq]
theorem partG_trans {a b c : Nat} (h1 : nl a b = 0) (h2 : nl b c = 0) : nl a c = 0 := nl_zero.2 fun i hi => nl_zero.1 h2 i (nl_zero.1 h1 i hi)
theorem coverG_trans {p q r s t u : Nat} (h1 : coverN p q r s = true) (h2 : coverN r s t u = true) : coverN p q t u = true := by
  rw [coverG_iff] at *
  exact ⟨partG_trans h1.1 h2.1, partG_trans h1.2 h2.2⟩
/-- Each arm is covered by a greatest one. -/
theorem great_over {arms : List Ar} (hn : ∀ a ∈ arms, ArN a) : ∀ (k : Nat) (a : Ar), a ∈ arms → a.all.toNat + a.non.toNat ≤ k → ∃ g ∈ mGrV arms, covA g a = true := by
  intro k
  induction k using Nat.strongRecOn with
  | ind k ih =>
    intro a ha hk
    cases hc : covV arms a
    · exact ⟨a, List.mem_filter.2 ⟨ha, by rw [hc]; rfl⟩, coverG_refl _ _⟩
    · unfold covV at hc
      obtain ⟨b, hb, h1⟩ := List.any_eq_true.1 hc
      rw [Bool.and_eq_true, Bool.not_eq_true'] at h1
      obtain ⟨h1, h2⟩ := h1
      obtain ⟨p, q, e1, e2, _, _⟩ := hn b hb
      obtain ⟨r, s, e3, e4, _, _⟩ := hn a ha
      have h3 := h2
      unfold covA at h3
      rw [e1, e2, e3, e4] at h3
      simp only [Int.toNat_natCast] at h3
      rw [coverG_iff] at h3
      have l1 := part_le h3.1
      have l2 := part_le h3.2
      have hne : ¬ (p = r ∧ q = s) := by
        rintro ⟨rfl, rfl⟩
        unfold eqA at h1
        rw [e1, e2, e3, e4] at h1
        simp at h1
      have hlt : b.all.toNat + b.non.toNat < a.all.toNat + a.non.toNat := by
        rw [e1, e2, e3, e4]
        simp only [Int.toNat_natCast]
        omega
      obtain ⟨g, hg, hc2⟩ := ih (b.all.toNat + b.non.toNat) (by omega) b hb (Nat.le_refl _)
      exact ⟨g, hg, coverG_trans hc2 h2⟩
/-- What the law asks of greatest arms. -/
structure GrL (ds : List D) (b : Int) (list : List Int) (gs : List Ar) (k : Nat) (all : List Int) : Prop where
  mok : mMaskOf ds b = (k : Int)
  ps : mParts ds b (k : Int) = all
  nat : ∀ x ∈ all, ∃ t : Nat, x = (t : Int) ∧ t < 4096
  few : all.length ≤ 64
  arm : ∀ a ∈ gs, ArN a
  mt : ∀ i (hi : i < gs.length), ∀ j (hj : j < all.length), mMatch ds b gs[i] all[j] = matchA all[j].toNat gs[i]
  met : ∀ j (hj : j < all.length), (gs.any fun g => matchA all[j].toNat g) = list.any fun t => t == all[j]
  cov : ∀ i (hi : i < gs.length), ∀ j (hj : j < gs.length), i ≠ j → mCover ds b gs[i] gs[j] = false
theorem any_eqG (list : List Int) (x : Int) : (list.any fun t => t == x) = list.any fun y => decide (y = x) := rfl
theorem matchG_mono {p q r s n : Nat} (h : coverN p q r s = true) (hm : matchN r s n = true) : matchN p q n = true := by
  unfold coverN at h
  rw [Bool.and_eq_true, decide_eq_true_iff, decide_eq_true_iff] at h
  rw [match_iff] at hm ⊢
  refine ⟨partG_trans h.1 hm.1, ?_⟩
  rw [and_zero] at *
  intro i hi
  cases hq : q.testBit i
  · rfl
  · have := hm.2 i hi
    rw [nl_zero.1 h.2 i hq] at this
    cases this
theorem gr_law {ds : List D} {b : Int} {list : List Int} (h : mGrOk ds b list = true) : GrL ds b list (mGreat ds b list) (mMask ds) (partsTo (mMask ds) (mMask ds + 1)) := by
  have hv := mGrOk_flag h
  have hpc := mGrOk_popc h
  have hm4 := mMask_lt12 (vFlag_in hv)
  have hiv := mIsV_mask hv
  have hgr : mGreat ds b list = mGrV (mArmsIn (mMask ds) list) := by rw [mGreat_V, h, if_pos rfl]
  have hna := arms_arN (list := list) hm4
  have hsub : ∀ g ∈ mGreat ds b list, g ∈ mArmsIn (mMask ds) list := fun g hg => (mGreat_sub g hg).2
  have hfit : ∀ g ∈ mGreat ds b list, mArm ds b g = true := by
    intro g hg
    obtain ⟨t, u, rfl, h1, h2, h3, _⟩ := mem_armsG.1 (hsub g hg)
    exact arm_of hv h1 h2 h3
  refine ⟨by unfold mMaskOf; rw [if_pos hv], ?_, fun x hx => ?_, parts64 hpc, mGreat_arN ds b list, fun i hi j hj => ?_, fun j hj => ?_, fun i hi j hj hne => ?_⟩
  · unfold mParts mPartsOk; rw [hiv, Int.toNat_natCast, decide_eq_true hpc]; rfl
  · obtain ⟨t, e, h1, _⟩ := partsG_mem hx; exact ⟨t, e, by omega⟩
  · unfold mMatch
    obtain ⟨t, e, ht⟩ := partsG_iff.1 (List.getElem_mem hj)
    rw [hfit _ (List.getElem_mem hi), e, v_part hv ht]
    rfl
  · obtain ⟨t, e, ht⟩ := partsG_iff.1 (List.getElem_mem hj)
    rw [e, any_eqG, Int.toNat_natCast, Bool.eq_iff_iff]
    constructor
    · intro hg
      obtain ⟨g, hg1, hg2⟩ := List.any_eq_true.1 hg
      obtain ⟨p, q, rfl, h1, h2, h3, h4⟩ := mem_armsG.1 (hsub g hg1)
      have h5 := okIn_iff.1 h4 (t : Int) (partsG_iff.2 ⟨t, rfl, ht⟩)
      unfold matchA at hg2
      simp only [Int.toNat_natCast] at hg2 h5
      exact h5 hg2
    · intro hl
      have hok : okIn (partsTo (mMask ds) (mMask ds + 1)) list t (nl (mMask ds) t) = true := by
        rw [okIn_iff]
        intro n hn hmn
        obtain ⟨s, rfl, hs⟩ := partsG_iff.1 hn
        rw [Int.toNat_natCast, match_iff] at hmn
        have : s = t := by
          apply tb_ext
          intro i
          have h1 := nl_zero.1 hmn.1 i
          have h2 := and_zero.1 hmn.2 i
          have h3 := nl_zero.1 hs i
          rw [tb_nl] at h2
          cases hsi : s.testBit i
          · cases hti : t.testBit i
            · rfl
            · rw [h1 hti] at hsi; exact absurd hsi (by decide)
          · cases hti : t.testBit i
            · have h4 := h2 hsi
              rw [h3 hsi, hti] at h4
              exact absurd h4 (by decide)
            · rfl
        subst this
        exact hl
      have hdis : t &&& nl (mMask ds) t = 0 := by
        apply and_zero.2
        intro i hi
        rw [tb_nl, hi]
        simp
      have hin : (⟨(t : Int), ((nl (mMask ds) t : Nat) : Int)⟩ : Ar) ∈ mArmsIn (mMask ds) list := mem_armsG.2 ⟨t, nl (mMask ds) t, rfl, ht, not_part _ _, hdis, hok⟩
      obtain ⟨g, hg1, hg2⟩ := great_over hna _ _ hin (Nat.le_refl _)
      rw [hgr]
      refine List.any_eq_true.2 ⟨g, hg1, ?_⟩
      unfold covA at hg2
      unfold matchA
      exact matchG_mono hg2 (by simp only [Int.toNat_natCast]; exact match_self hdis)
  · unfold mCover mTwoArms
    have hi' := hi
    have hj' := hj
    have hpw : Apt (mGreat ds b list) := by rw [hgr]; exact List.Pairwise.filter _ (mArmsIn_apart _ _)
    have h1 := hpw.at_ hi hj hne
    have h2 : (mGreat ds b list)[j] ∈ mGrV (mArmsIn (mMask ds) list) := by rw [← hgr]; exact List.getElem_mem hj
    have h3 := (List.mem_filter.1 h2).2
    have h4 : covV (mArmsIn (mMask ds) list) (mGreat ds b list)[j] = false := by simpa using h3
    unfold covV at h4
    rw [List.any_eq_false] at h4
    have h5 := h4 _ (hsub _ (List.getElem_mem hi))
    rw [h1, Bool.not_false, Bool.true_and] at h5
    have h6 : covA (mGreat ds b list)[i] (mGreat ds b list)[j] = false := by simpa using h5
    unfold covA at h6
    rw [h6, Bool.and_false]
theorem great_some {ds : List D} {b : Int} {list : List Int} (h : 0 < (mGreat ds b list).length) : mGrOk ds b list = true := by
  cases hg : mGrOk ds b list
  · rw [mGreat_no hg] at h; exact absurd h (by simp)
  · rfl
end Go.Proofs.Ytpmanbmhbfnefaa

namespace Go.Proofs.Ytpmanbmhbfnefaa
open Go.RowKit Go.Maps
set_option linter.unusedVariables false
set_option maxRecDepth 100000
set_option maxHeartbeats 1000000 in
theorem equalArms_any (ss : List Ar) (A A2 : Option Addr) (c c2 n n2 : Nat) (w : World) (hr : SA w w.heap.size A n c ss) (hr2 : SA w w.heap.size A2 n2 c2 ss) :
    Calls Try.prog 35 #[.slice A n c, .slice A2 n2 c2] w fun e w' => e = .returned (.bool true) ∧ Below w.heap.size w w' := by
  obtain rfl := hr.len
  obtain rfl := hr2.len
  have hl := hr.max
  have hl2 := hr.cap
  unfold maxLen at hl
  have HR := Lib.hid hr
  have HR2 := Lib.hid hr2
  clear hr hr2
  go_enter Try.func35, Try.ntmps35
  go_wp2
  go_loopw [5] (fun i wr => ∃ (k : Nat), k ≤ ss.length ∧ i = .int .i64 k ∧ Hid (Below w.heap.size w wr)) (fun i _ => ss.length - (intOf i).toNat)
  case atStart => exact ⟨0, Nat.zero_le _, rfl, Lib.hid (Below.refl _ _)⟩
  case round =>
    obtain ⟨k, hk, rfl, hbel⟩ := hrel
    by_cases hlt : k < ss.length
    · obtain ⟨b, o, rfl, hb, c1, d1⟩ := (HR.out.below hbel.out).at_ hlt
      obtain ⟨b', o', rfl, hb', c1', d1'⟩ := (HR2.out.below hbel.out).at_ hlt
      have hi1 : (k : Int) < (ss.length : Int) := by omega
      have hi0 : (0 : Int) ≤ (k : Int) := by omega
      go_wp2
      go_quiet (fail)
      go_wp2
      go_roundw
      case rel => exact ⟨k + 1, by omega, by go_num, Lib.hid (below_drewN hbel.out _)⟩
      case measure => simp [intOf]; omega
    · obtain rfl : k = ss.length := by omega
      go_wp2
      go_ret
      exact ⟨rfl, hbel.out⟩
end Go.Proofs.Ytpmanbmhbfnefaa

