import Derived.Test.YtbkfagncoekbkaaDiff
import Derived.Test.YtbkfagncoekbkaaBaseB
import Derived.Test.YtbkfagncoekbkaaDiffM
namespace Go.Proofs.Ytbkfagncoekbkaa
open Go.RowKit
set_option linter.unusedVariables false
set_option maxRecDepth 100000

set_option maxHeartbeats 8000000 in
theorem specDiff_any (ds es : List D) (A B : Option Addr) (n c m e : Nat) (w : World) (ha : SD w w.heap.size A n c ds) (hb : SD w w.heap.size B m e es) :
    Calls Try.prog 57 #[.agg #[.slice A n c], .agg #[.slice B m e]] w (FreshK (mDiffE ds es) w) := by
  obtain ⟨W0, hW0⟩ : ∃ W0 : World, W0 = ((w.alloc (.cells #[.slice A n c] 58)).alloc (.cells #[.slice B m e] 58)) := ⟨_, rfl⟩
  have hb0 : Below w.heap.size w W0 := by rw [hW0]; exact ((Below.refl _ _).alloc (Nat.le_refl _) _).alloc (by simp) _
  have HC0 : Hid (Cl W0 w.heap.size (.slice A n c)) := Lib.hid (by rw [hW0]; exact ⟨by simp [go_sem], by simp [go_sem]⟩)
  have HC1 : Hid (Cl W0 (w.heap.size + 1) (.slice B m e)) := Lib.hid (by rw [hW0]; exact ⟨by simp [go_sem], by simp [go_sem]⟩)
  have HB0 := Lib.hid hb0
  have HRA := Lib.hid ((ha.below hb0).call hb0.size)
  have HRB := Lib.hid ((hb.below hb0).call hb0.size)
  have HLA := Lib.hid ha.len
  have HLB := Lib.hid hb.len
  have HOA := Lib.hid ha.ok
  have HOB := Lib.hid hb.ok
  have HW0 := Lib.hid hW0.symm
  clear ha hb hb0 hW0
  have HZ0 : Hid (w.heap.size + 2 ≤ W0.heap.size) := Lib.hid (by rw [← HW0.out]; simp)
  cases hv : vEnum ds
  · have HV := Lib.hid hv
    have HM : Hid (mDiffE ds es = []) := Lib.hid (mDiffE_no (.inl hv))
    clear hv
    go_enter Try.func57, Try.ntmps57
    go_wp2_with fail
    rw [HW0.out]
    refine (specVE_v ds _ _ _ _ HRA.out HV.out).mono ?_
    rintro e1 w1 ⟨rfl, hb⟩
    have HB1 := Lib.hid (HB0.out.trans (hb.mono HB0.out.size))
    have hz1 : w.heap.size + 2 ≤ w1.heap.size := Nat.le_trans HZ0.out hb.size
    clear hb
    go_wp2
    go_ret
    rw [HM.out]
    exact FreshK_nil HB1.out
  · have HV := Lib.hid hv
    cases hv2 : vEnum es
    · have HV2 := Lib.hid hv2
      have HM : Hid (mDiffE ds es = []) := Lib.hid (mDiffE_no (.inr hv2))
      clear hv hv2
      go_enter Try.func57, Try.ntmps57
      go_wp2_with fail
      rw [HW0.out]
      refine (specVE_v ds _ _ _ _ HRA.out HV.out).mono ?_
      rintro e1 w1 ⟨rfl, hb⟩
      have HB1 := Lib.hid (HB0.out.trans (hb.mono HB0.out.size))
      have hz1 : w.heap.size + 2 ≤ w1.heap.size := Nat.le_trans HZ0.out hb.size
      have x0 := (HC0.out.below hb).1
      have x1 := (HC1.out.below hb).1
      have HSA1 := Lib.hid ((HRA.out.below hb).call hb.size)
      have HSB1 := Lib.hid ((HRB.out.below hb).call hb.size)
      clear hb
      go_wp2_with fail
      refine (specVE_v es _ _ _ _ HSB1.out HV2.out).mono ?_
      rintro e1 w2 ⟨rfl, hb⟩
      have HB2 := Lib.hid (HB1.out.trans (hb.mono HB1.out.size))
      have hz2 := Nat.le_trans hz1 hb.size
      clear hb
      go_wp2
      go_ret
      rw [HM.out]
      exact FreshK_nil HB2.out
    · have HV2 := Lib.hid hv2
      have h12 := vEnum_len hv
      have h13 := vEnum_len hv2
      have HNA : Hid (n ≤ 12) := Lib.hid (by have := HLA.out; omega)
      have HNB : Hid (m ≤ 12) := Lib.hid (by have := HLB.out; omega)
      have HMD : Hid (mDiffE ds es = mDiff ds es) := Lib.hid (mDiffE_yes HV.out HV2.out)
      have HDF : Hid (∀ (A B : Option Addr) (n c m e : Nat) (w : World), SD w w.heap.size A n c ds → SD w w.heap.size B m e es → n ≤ 100 → m ≤ 100 → Calls Try.prog 119 #[.slice A n c, .slice B m e] w (FreshK (mDiff ds es) w)) := Lib.hid (fun A B n c m e w h1 h2 h3 h4 => differ_any ds es A B n c m e w h1 h2 h3 h4)
      rw [HMD.out]
      generalize mDiff ds es = xs at HDF ⊢
      clear hv hv2
      go_enter Try.func57, Try.ntmps57
      go_wp2_with fail
      rw [HW0.out]
      refine (specVE_v ds _ _ _ _ HRA.out HV.out).mono ?_
      rintro e1 w1 ⟨rfl, hb⟩
      have HB1 := Lib.hid (HB0.out.trans (hb.mono HB0.out.size))
      have hz1 : w.heap.size + 2 ≤ w1.heap.size := Nat.le_trans HZ0.out hb.size
      have x0 := (HC0.out.below hb).1
      have x1 := (HC1.out.below hb).1
      have HSA1 := Lib.hid ((HRA.out.below hb).call hb.size)
      have HSB1 := Lib.hid ((HRB.out.below hb).call hb.size)
      clear hb
      go_wp2_with fail
      refine (specVE_v es _ _ _ _ HSB1.out HV2.out).mono ?_
      rintro e1 w2 ⟨rfl, hb⟩
      have HB2 := Lib.hid (HB1.out.trans (hb.mono HB1.out.size))
      have hz2 := Nat.le_trans hz1 hb.size
      have y0 := keep1 hb x0
      have y1 := keep1 hb x1
      have HSA2 := Lib.hid ((HSA1.out.below hb).call hb.size)
      have HSB2 := Lib.hid ((HSB1.out.below hb).call hb.size)
      clear hb x0 x1 HSA1 HSB1
      go_wp2_with fail
      refine (HDF.out _ _ _ _ _ _ _ HSA2.out HSB2.out (by have := HNA.out; omega) (by have := HNB.out; omega)).mono ?_
      rintro e1 w3 ⟨A3, c3, rfl, ho, hb⟩
      have HB3 := Lib.hid (HB2.out.trans (hb.mono HB2.out.size))
      have HO := Lib.hid (own_base ho HB2.out.size)
      clear ho hb
      go_wp2
      go_ret
      exact ⟨A3, c3, rfl, HO.out, HB3.out⟩
end Go.Proofs.Ytbkfagncoekbkaa
