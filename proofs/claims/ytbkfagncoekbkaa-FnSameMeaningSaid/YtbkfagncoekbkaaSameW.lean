import Derived.Test.YtbkfagncoekbkaaSameP
import Derived.Test.YtbkfagncoekbkaaDiff
namespace Go.Proofs.Ytbkfagncoekbkaa
open Go.RowKit
set_option linter.unusedVariables false
set_option maxRecDepth 100000

theorem FreshK_v {xs ys : List Ch} (h : xs = ys) {w : World} {e : Ending} {w' : World} : FreshK xs w e w' ↔ FreshK ys w e w' := by subst h; exact Iff.rfl

set_option maxHeartbeats 4000000 in
theorem specSame_any (ds es : List D) (A B : Option Addr) (n c m e : Nat) (w : World) (ha : SD w w.heap.size A n c ds) (hb : SD w w.heap.size B m e es) :
    Calls Try.prog 61 #[.agg #[.slice A n c], .agg #[.slice B m e]] w fun en w' => en = .returned (.bool (mSame ds es)) ∧ Below w.heap.size w w' := by
  obtain ⟨W0, hW0⟩ : ∃ W0 : World, W0 = (w.alloc (.cells #[.slice A n c] 58)).alloc (.cells #[.slice B m e] 58) := ⟨_, rfl⟩
  have hb0 : Below w.heap.size w W0 := by rw [hW0]; exact ((Below.refl _ _).alloc (Nat.le_refl _) _).alloc (by simp) _
  have HC0 : Hid (Cl W0 w.heap.size (.slice A n c)) := Lib.hid (by rw [hW0]; exact ⟨by simp [go_sem], by simp [go_sem]⟩)
  have HC1 : Hid (Cl W0 (w.heap.size + 1) (.slice B m e)) := Lib.hid (by rw [hW0]; exact ⟨by simp [go_sem], by simp [go_sem]⟩)
  have HB0 := Lib.hid hb0
  have HRA := Lib.hid ((ha.below hb0).call hb0.size)
  have HRB := Lib.hid ((hb.below hb0).call hb0.size)
  have HLA := Lib.hid ha.len
  have HLB := Lib.hid hb.len
  have HW0 := Lib.hid hW0.symm
  clear ha hb hb0 hW0
  cases hv : vEnum ds
  · have HV := Lib.hid hv
    have HM : Hid (mSame ds es = false) := Lib.hid (by unfold mSame; rw [hv]; rfl)
    clear hv
    go_enter Try.func61, Try.ntmps61
    go_wp2_with fail
    rw [HW0.out]
    refine (specVE_v ds _ _ _ _ HRA.out HV.out).mono ?_
    rintro e1 w1 ⟨rfl, hb⟩
    have HB := Lib.hid (HB0.out.trans (hb.mono HB0.out.size))
    clear hb
    go_wp2
    go_ret
    exact ⟨ret_bool HM.out.symm, HB.out⟩
  · have HV := Lib.hid hv
    cases hv2 : vEnum es
    · have HV2 := Lib.hid hv2
      have HM : Hid (mSame ds es = false) := Lib.hid (by unfold mSame; rw [hv, hv2]; rfl)
      clear hv hv2
      go_enter Try.func61, Try.ntmps61
      go_wp2_with fail
      rw [HW0.out]
      refine (specVE_v ds _ _ _ _ HRA.out HV.out).mono ?_
      rintro e1 w1 ⟨rfl, hb⟩
      have HB := Lib.hid (HB0.out.trans (hb.mono HB0.out.size))
      have x1 := (HC1.out.below hb).1
      have HS := Lib.hid ((HRB.out.below hb).call hb.size)
      clear hb
      go_wp2_with fail
      refine (specVE_v es _ _ _ _ HS.out HV2.out).mono ?_
      rintro e1 w2 ⟨rfl, hb⟩
      have HB2 := Lib.hid (HB.out.trans (hb.mono HB.out.size))
      clear hb
      go_wp2
      go_ret
      exact ⟨ret_bool HM.out.symm, HB2.out⟩
    · have HV2 := Lib.hid hv2
      have HM : Hid (mSame ds es = decide ((mDiff ds es).length = 0)) := Lib.hid (by unfold mSame; rw [hv, hv2]; rfl)
      have h12 := vEnum_len hv
      have h13 := vEnum_len hv2
      have HNA : Hid (n ≤ 100) := Lib.hid (by have := HLA.out; omega)
      have HNB : Hid (m ≤ 100) := Lib.hid (by have := HLB.out; omega)
      clear hv hv2
      generalize hd : mDiff ds es = xs at *
      have HDF : Hid (∀ (A B : Option Addr) (n c m e : Nat) (w : World), SD w w.heap.size A n c ds → SD w w.heap.size B m e es → n ≤ 100 → m ≤ 100 → Calls Try.prog 119 #[.slice A n c, .slice B m e] w (FreshK xs w)) := Lib.hid (by rw [← hd]; exact fun A B n c m e w h1 h2 h3 h4 => differ_any ds es A B n c m e w h1 h2 h3 h4)
      clear hd
      by_cases hz : xs.length = 0
      all_goals
        have hz1 : decide (xs.length = 0) = decide (xs.length = 0) := rfl
        go_enter Try.func61, Try.ntmps61
        go_wp2_with fail
        rw [HW0.out]
        refine (specVE_v ds _ _ _ _ HRA.out HV.out).mono ?_
        rintro e1 w1 ⟨rfl, hb⟩
        have HB := Lib.hid (HB0.out.trans (hb.mono HB0.out.size))
        have x0 := (HC0.out.below hb).1
        have x1 := (HC1.out.below hb).1
        have HSA := Lib.hid ((HRA.out.below hb).call hb.size)
        have HSB := Lib.hid ((HRB.out.below hb).call hb.size)
        clear hb
        go_wp2_with fail
        refine (specVE_v es _ _ _ _ HSB.out HV2.out).mono ?_
        rintro e1 w2 ⟨rfl, hb⟩
        have HB2 := Lib.hid (HB.out.trans (hb.mono HB.out.size))
        have y0 := keep1 hb x0
        have y1 := keep1 hb x1
        have HSA2 := Lib.hid ((HSA.out.below hb).call hb.size)
        have HSB2 := Lib.hid ((HSB.out.below hb).call hb.size)
        clear hb x0 x1
        go_wp2_with fail
        refine (HDF.out _ _ _ _ _ _ _ HSA2.out HSB2.out HNA.out HNB.out).mono ?_
        rintro e1 w3 ⟨A3, c3, rfl, ho, hb⟩
        have HB3 := Lib.hid (HB2.out.trans (hb.mono HB2.out.size))
        clear ho hb
        go_wp2
        go_ret
        exact ⟨ret_bool (by rw [HM.out]; first | (simp [hz]; done) | (simp; omega)), HB3.out⟩
end Go.Proofs.Ytbkfagncoekbkaa
