import Derived.Test.YtbkfagncoekbkaaMergeP
import Derived.Test.YtbkfagncoekbkaaBaseC
import Derived.Test.YtbkfagncoekbkaaBaseB
namespace Go.Proofs.Ytbkfagncoekbkaa
open Go.RowKit
set_option linter.unusedVariables false
set_option maxRecDepth 100000

set_option maxHeartbeats 16000000 in
theorem implMerge_any (ds es : List D) (A B : Option Addr) (n c m e : Nat) (w : World) (ha : SD w w.heap.size A n c ds) (hb : SD w w.heap.size B m e es) :
    Calls Try.prog 50 #[.agg #[.slice A n c], .agg #[.slice B m e]] w (EnumP (mMerge ds es) w) := by
  obtain ⟨W0, hW0⟩ : ∃ W0 : World, W0 = (((w.alloc (.cells #[.slice A n c] 58)).alloc (.cells #[.slice B m e] 58)).alloc (.cells #[.slice none 0 0] 58)) := ⟨_, rfl⟩
  have hb0 : Below w.heap.size w W0 := by rw [hW0]; exact (((Below.refl _ _).alloc (Nat.le_refl _) _).alloc (by simp) _).alloc (by simp; omega) _
  have HC0 : Hid (Cl W0 w.heap.size (.slice A n c)) := Lib.hid (by rw [hW0]; exact ⟨by simp [go_sem], by simp [go_sem]⟩)
  have HC1 : Hid (Cl W0 (w.heap.size + 1) (.slice B m e)) := Lib.hid (by rw [hW0]; exact ⟨by simp [go_sem], by simp [go_sem]⟩)
  have HC2 : Hid (Cl W0 (w.heap.size + 1 + 1) (.slice none 0 0)) := Lib.hid (by rw [hW0]; exact ⟨by simp [go_sem], by simp [go_sem]⟩)
  have HB0 := Lib.hid hb0
  have HRA := Lib.hid ((ha.below hb0).call hb0.size)
  have HRB := Lib.hid ((hb.below hb0).call hb0.size)
  have HLA := Lib.hid ha.len
  have HLB := Lib.hid hb.len
  have HOA := Lib.hid ha.ok
  have HOB := Lib.hid hb.ok
  have HW0 := Lib.hid hW0.symm
  clear ha hb hb0 hW0
  have HZ0 : Hid (w.heap.size + 3 ≤ W0.heap.size) := Lib.hid (by rw [← HW0.out]; simp)
  cases hv : vEnum ds
  · have HV := Lib.hid hv
    have HM : Hid (mMerge ds es = none) := Lib.hid (mMerge_no (.inl hv))
    clear hv
    go_enter Try.func50, Try.ntmps50
    go_wp2_with fail
    rw [HW0.out]
    refine (implVE_v ds _ _ _ _ HRA.out HV.out).mono ?_
    rintro e1 w1 ⟨rfl, hb⟩
    have HB1 := Lib.hid (HB0.out.trans (hb.mono HB0.out.size))
    have hz1 : w.heap.size + 3 ≤ w1.heap.size := Nat.le_trans HZ0.out hb.size
    obtain ⟨x2, y2⟩ := HC2.out.below hb
    clear hb
    go_wp2
    rw [HM.out]
    exact bodyPost_ret (v := .tuple #[.agg #[.slice none 0 0], .bool false]) (by simp [results, Try.results50, go_sem, x2]) rfl (enumP_none (HB1.out.setCell (by show w.heap.size ≤ w.heap.size + 1 + 1; omega) _))
  · have HV := Lib.hid hv
    cases hv2 : vEnum es
    · have HV2 := Lib.hid hv2
      have HM : Hid (mMerge ds es = none) := Lib.hid (mMerge_no (.inr hv2))
      clear hv hv2
      go_enter Try.func50, Try.ntmps50
      go_wp2_with fail
      rw [HW0.out]
      refine (implVE_v ds _ _ _ _ HRA.out HV.out).mono ?_
      rintro e1 w1 ⟨rfl, hb⟩
      have HB1 := Lib.hid (HB0.out.trans (hb.mono HB0.out.size))
      have hz1 : w.heap.size + 3 ≤ w1.heap.size := Nat.le_trans HZ0.out hb.size
      have x0 := (HC0.out.below hb).1
      have x1 := (HC1.out.below hb).1
      have HX2 := Lib.hid (HC2.out.below hb)
      have HSA1 := Lib.hid ((HRA.out.below hb).call hb.size)
      have HSB1 := Lib.hid ((HRB.out.below hb).call hb.size)
      clear hb
      go_wp2_with fail
      refine (implVE_v es _ _ _ _ HSB1.out HV2.out).mono ?_
      rintro e1 w2 ⟨rfl, hb⟩
      have HB2 := Lib.hid (HB1.out.trans (hb.mono HB1.out.size))
      have hz2 := Nat.le_trans hz1 hb.size
      obtain ⟨x2, y2⟩ := HX2.out.below hb
      clear hb
      go_wp2
      rw [HM.out]
      exact bodyPost_ret (v := .tuple #[.agg #[.slice none 0 0], .bool false]) (by simp [results, Try.results50, go_sem, x2]) rfl (enumP_none (HB2.out.setCell (by show w.heap.size ≤ w.heap.size + 1 + 1; omega) _))
    · have HV2 := Lib.hid hv2
      have h12 := vEnum_len hv
      have h13 := vEnum_len hv2
      have HNA : Hid (n ≤ 12) := Lib.hid (by have := HLA.out; omega)
      have HNB : Hid (m ≤ 12) := Lib.hid (by have := HLB.out; omega)
      clear hv hv2
      go_enter Try.func50, Try.ntmps50
      go_wp2_with fail
      rw [HW0.out]
      refine (implVE_v ds _ _ _ _ HRA.out HV.out).mono ?_
      rintro e1 w1 ⟨rfl, hb⟩
      have HB1 := Lib.hid (HB0.out.trans (hb.mono HB0.out.size))
      have hz1 : w.heap.size + 3 ≤ w1.heap.size := Nat.le_trans HZ0.out hb.size
      have x0 := (HC0.out.below hb).1
      have x1 := (HC1.out.below hb).1
      have HX2 := Lib.hid (HC2.out.below hb)
      have HSA1 := Lib.hid ((HRA.out.below hb).call hb.size)
      have HSB1 := Lib.hid ((HRB.out.below hb).call hb.size)
      clear hb
      go_wp2_with fail
      refine (implVE_v es _ _ _ _ HSB1.out HV2.out).mono ?_
      rintro e1 w2 ⟨rfl, hb⟩
      have HB2 := Lib.hid (HB1.out.trans (hb.mono HB1.out.size))
      have hz2 := Nat.le_trans hz1 hb.size
      have y0 := keep1 hb x0
      have y1 := keep1 hb x1
      have HY2 := Lib.hid (HX2.out.below hb)
      have HSA2 := Lib.hid ((HSA1.out.below hb).call hb.size)
      have HSB2 := Lib.hid ((HSB1.out.below hb).call hb.size)
      clear hb x0 x1 HSA1 HSB1
      obtain rfl := HLA.out
      obtain rfl := HLB.out
      have hcap2 := HSB2.out.cap
      have hcm2 := HSB2.out.max
      unfold maxLen at hcm2
      obtain ⟨W3, hW3⟩ : ∃ W : World, W = w2.alloc (.cells #[.slice A ds.length c] 23) := ⟨_, rfl⟩
      have hb3 : Below w2.heap.size w2 W3 := by rw [hW3]; exact (Below.refl _ _).alloc (Nat.le_refl _) _
      have hz3 : W3.heap.size = w2.heap.size + 1 := by rw [hW3]; simp
      have HPT : Hid (Rd W3 W3.heap.size 1 encP (some ⟨w2.heap.size, 0, none⟩) [(⟨A, ds.length, c, ds⟩ : Part D)]) := Lib.hid (part1 (by rw [hW3]; simp [go_sem]) (by omega))
      have HPS : Hid (∀ x ∈ [(⟨A, ds.length, c, ds⟩ : Part D)], SL encD 2 W3 W3.heap.size x.A x.n x.c x.xs) := Lib.hid (by
        intro x hx
        simp at hx
        subst hx
        exact ((HSA2.out.below hb3).call hb3.size).sl)
      have HE : Hid (cat [(⟨A, ds.length, c, ds⟩ : Part D)] = ds) := Lib.hid (by simp [cat])
      have HB3 := Lib.hid hb3
      have HW3 := Lib.hid hW3.symm
      clear hb3 hW3 hz3
      go_wp2_with fail
      rw [HW3.out]
      refine (concatD_v _ _ _ _ _ HPT.out rfl (by simp) (by omega) HPS.out HE.out (by omega)).mono ?_
      rintro e2 w4 ⟨A4, c4, rfl, ho, hb4⟩
      have HB4 := Lib.hid (HB3.out.trans (hb4.mono HB3.out.size))
      have HO4 := Lib.hid (own_base ho HB3.out.size)
      have u1 := keep1 HB4.out y1
      clear ho hb4 HB3 HPT HPS
      go_wp2
      go_loopw [6, 26] (fun v i wr => ∃ k q : Nat, k ≤ es.length ∧ i = .int .i64 k ∧ Hid (q = (ds ++ (es.take k).flatMap (newF ds)).length) ∧ q ≤ ds.length + k ∧ Hid (∀ i (hi : i < es.length), i < k → clash ds es[i] = false) ∧ Hid (wr.ownsRow w2.heap.size 37 2 v q (flat (ds ++ (es.take k).flatMap (newF ds)))) ∧ Hid (Below w2.heap.size w2 wr)) (fun _ i _ => es.length - (intOf i).toNat)
      case atStart => exact ⟨0, ds.length, Nat.zero_le _, rfl, Lib.hid (by simp), by omega, Lib.hid (fun i hi h => absurd h (by omega)), Lib.hid (by rw [List.take_zero, List.flatMap_nil, List.append_nil]; exact HO4.out), HB4⟩
      case round =>
        clear HO4 HB4 u1
        obtain ⟨k, q, hk, rfl, hq, hqk, hcl, hown, hbel⟩ := hrel
        have z0 := keep1 hbel.out y0
        by_cases hlt : k < es.length
        · have HSA3 := Lib.hid ((HSA2.out.below hbel.out).call hbel.out.size)
          have HX3 := Lib.hid (HY2.out.below hbel.out)
          obtain ⟨b, o, rfl, hbb, c1, c2⟩ := (HSB2.out.below hbel.out).at_ hlt
          have HFN : Hid ((ds ++ (es.take (k + 1)).flatMap (newF ds)) = (ds ++ (es.take k).flatMap (newF ds)) ++ newF ds es[k]) := Lib.hid (by rw [fm_snoc (newF ds) es k hlt, List.append_assoc])
          have hi1 : (k : Int) < (es.length : Int) := by omega
          have hi0 : (0 : Int) ≤ (k : Int) := by omega
          have HMEM := Lib.hid (List.getElem_mem hlt)
          have hb3 : Below wr.heap.size wr (wr.alloc (.cells #[.string es[k].name, .int .i64 es[k].val] 37)) := (Below.refl _ _).alloc (Nat.le_refl _) _
          have z2 := keep1 hb3 z0
          have HS4 := Lib.hid ((HSA3.out.below hb3).call hb3.size)
          have HOW4 := Lib.hid (own_below hown.out hb3)
          have HX4 := Lib.hid (HX3.out.below hb3)
          have HBR4 := Lib.hid (hbel.out.trans (hb3.mono hbel.out.size))
          have g1 : (wr.alloc (.cells #[.string es[k].name, .int .i64 es[k].val] 37)).cell? ⟨wr.heap.size, 0, none⟩ = some (.string es[k].name) := by simp [go_sem]
          have g2 : (wr.alloc (.cells #[.string es[k].name, .int .i64 es[k].val] 37)).cell? ⟨wr.heap.size, 1, none⟩ = some (.int .i64 es[k].val) := by simp [go_sem]
          clear hb3 z0
          rcases fidx_cases (isNm es[k].name) ds with ⟨hx, _⟩ | ⟨j, hj, hx, hnm, _⟩
          · have HDN := Lib.hid (newF_yes (a := ds) (d := es[k]) (by omega))
            have HCL := Lib.hid (clash_none (a := ds) (d := es[k]) (by omega))
            have HX := Lib.hid hx
            clear hx
            generalize hdd : es[k] = d at *
            have HDD := Lib.hid hdd
            clear hdd
            go_wp2_with fail
            refine (indexOfName_v ds _ _ _ _ _ HS4.out HX.out).mono ?_
            rintro e3 w5 ⟨rfl, hb5⟩
            have k1 := keep1 hb5 g1
            have k2 := keep1 hb5 g2
            have k3 := keep1 hb5 z2
            have HOW5 := Lib.hid (own_below HOW4.out hb5)
            have HX5 := Lib.hid (HX4.out.below hb5)
            have HBR5 := Lib.hid (HBR4.out.trans (hb5.mono HBR4.out.size))
            clear g1 g2 z2 c1 c2 HOW4 HBR4 HS4 HX4 hb5
            go_wp2_with (
              at_builtin
              refine wpList_app_Dg rfl _ _ rfl w2.heap.size _ q _ rfl HOW5.out _ _ _ _ rfl (by first | rfl | simp) (by omega) HBR5.out.size ?_
              intro v' w7 ho hg
              obtain ⟨A7, c7, rfl⟩ := own_form ho
              have HO7 := Lib.hid ho
              have HBR7 := Lib.hid (HBR5.out.grown hg HBR5.out.size (fun q hq => (HOW5.out.lt q hq).1))
              clear ho hg)
            go_roundw
            case rel => exact ⟨k + 1, q + 1, by omega, by go_num, Lib.hid (by rw [HFN.out, HDN.out, List.length_append, ← hq.out]; rfl), by omega, Lib.hid (fun i hi h => by by_cases e : i = k; subst e; rw [HDD.out]; exact HCL.out; exact hcl.out i hi (by omega)), Lib.hid (by rw [HFN.out, HDN.out, flat_app]; exact HO7.out), HBR7⟩
            case measure => simp [intOf]; omega
          · have HDN := Lib.hid (newF_no (d := es[k]) hj hx)
            have hnm2 : (ds[j].name.toList == es[k].name.toList) = true := hnm
            have hj0 : (0 : Int) ≤ (j : Int) := by omega
            have hj1 : (j : Int) < (ds.length : Int) := by omega
            have hneg : ¬ ((j : Int) < 0) := by omega
            have HCL0 := Lib.hid (clash_some (d := es[k]) hj hx)
            by_cases hval : ds[j].val = es[k].val
            · have HCL : Hid (clash ds es[k] = false) := Lib.hid (by rw [HCL0.out, hval]; simp)
              have hne := fun w => run_neD ds[j].name es[k].name ds[j].val es[k].val w
              rw [show (ds[j].name.toList == es[k].name.toList && ds[j].val == es[k].val) = true by rw [hnm2, hval]; simp, Bool.not_true] at hne
              have HX := Lib.hid hx
              clear hx hnm hnm2 hval HCL0
              obtain ⟨b2, o2, rfl, hbb2, e1, e2⟩ := (HSA2.out.below HBR4.out).at_ hj
              generalize hdd : es[k] = d at *
              have HDD := Lib.hid hdd
              clear hdd
              generalize ds[j] = d2 at *
              go_wp2_with fail
              refine (indexOfName_v ds _ _ _ _ _ HS4.out HX.out).mono ?_
              rintro e3 w5 ⟨rfl, hb5⟩
              have k1 := keep1 hb5 g1
              have k2 := keep1 hb5 g2
              have k3 := keep1 hb5 z2
              have l1 := keep1 hb5 e1
              have l2 := keep1 hb5 e2
              clear e1 e2
              have HOW5 := Lib.hid (own_below HOW4.out hb5)
              have HX5 := Lib.hid (HX4.out.below hb5)
              have HBR5 := Lib.hid (HBR4.out.trans (hb5.mono HBR4.out.size))
              clear g1 g2 z2 c1 c2 HOW4 HBR4 HS4 HX4 hb5
              go_wp2
              go_quiet (fail)
              go_wp2
              go_roundw
              case rel => exact ⟨k + 1, q, by omega, by go_num, Lib.hid (by rw [HFN.out, HDN.out, List.append_nil]; exact hq.out), by omega, Lib.hid (fun i hi h => by by_cases e : i = k; subst e; rw [HDD.out]; exact HCL.out; exact hcl.out i hi (by omega)), Lib.hid (by rw [HFN.out, HDN.out, List.append_nil]; exact own_drewN HOW5.out _), Lib.hid (below_drewN HBR5.out _)⟩
              case measure => simp [intOf]; omega
            · have HCL : Hid (clash ds es[k] = true) := Lib.hid (by rw [HCL0.out]; simpa using hval)
              have HMN := Lib.hid (mMerge_clash HMEM.out HCL.out)
              have hne := fun w => run_neD ds[j].name es[k].name ds[j].val es[k].val w
              rw [show (ds[j].name.toList == es[k].name.toList && ds[j].val == es[k].val) = false by rw [hnm2]; simpa using hval, Bool.not_false] at hne
              have HX := Lib.hid hx
              clear hx hnm hnm2 hval HCL0
              obtain ⟨b2, o2, rfl, hbb2, e1, e2⟩ := (HSA2.out.below HBR4.out).at_ hj
              generalize hdd : es[k] = d at *
              have HDD := Lib.hid hdd
              clear hdd
              generalize ds[j] = d2 at *
              go_wp2_with fail
              refine (indexOfName_v ds _ _ _ _ _ HS4.out HX.out).mono ?_
              rintro e3 w5 ⟨rfl, hb5⟩
              have k1 := keep1 hb5 g1
              have k2 := keep1 hb5 g2
              have k3 := keep1 hb5 z2
              have l1 := keep1 hb5 e1
              have l2 := keep1 hb5 e2
              clear e1 e2
              have HOW5 := Lib.hid (own_below HOW4.out hb5)
              have HX5 := Lib.hid (HX4.out.below hb5)
              have HBR5 := Lib.hid (HBR4.out.trans (hb5.mono HBR4.out.size))
              clear g1 g2 z2 c1 c2 HOW4 HBR4 HS4 HX4 hb5
              go_wp2
              go_quiet (fail)
              obtain ⟨x2, y2⟩ := HX5.out
              go_wp2
              rw [HMN.out]
              exact bodyPost_ret (v := .tuple #[.agg #[.slice none 0 0], .bool false]) (by simp [results, Try.results50, go_sem, x2]) rfl (enumP_none ((HB2.out.trans ((below_drewN HBR5.out _).mono HB2.out.size)).setCell (by show w.heap.size ≤ w.heap.size + 1 + 1; omega) _))
        · obtain rfl : k = es.length := by omega
          obtain ⟨A5, c5, rfl⟩ := own_form hown.out
          have h2 := hown.out
          have hq2 := hq.out
          rw [List.take_of_length_le (Nat.le_refl _)] at h2 hq2
          have HM := Lib.hid (mMerge_yes HV.out HV2.out hcl.out)
          have HOKM := Lib.hid (merge_ok HOA.out HOB.out)
          have HX3 := Lib.hid (HY2.out.below hbel.out)
          generalize hes : ds ++ es.flatMap (newF ds) = ms at *
          have HO := Lib.hid h2
          clear h2 hq2 hes
          generalize hv3 : vEnum ms = v3 at *
          have HV3 := Lib.hid hv3
          clear hv3
          go_wp2_with fail
          refine (checked_any ms _ _ _ _ (sd_of_own HO.out HOKM.out) HV3.out).mono ?_
          rintro e2 w5 ⟨A6, n6, c6, rfl, hq3, hb⟩
          obtain ⟨x2, y2⟩ := HX3.out.below hb
          have HB5 := Lib.hid (HB2.out.trans ((hbel.out.trans (hb.mono hbel.out.size)).mono HB2.out.size))
          have HO5 := Lib.hid (own_base (base' := w.heap.size + 1 + 1 + 1) (own_below HO.out hb) (by omega))
          have HQ := Lib.hid hq3
          clear hb hq3
          go_wp2
          refine bodyPost_ret (v := .tuple #[.agg #[.slice A6 n6 c6], .bool v3]) (by simp [results, Try.results50, go_sem, x2]) rfl ?_
          rw [HM.out, ← HV3.out]
          exact enumP_chk (own_base (own_setCell HO5.out (fun e => by have := (HO5.out.lt _ e).1; simp at this; omega) _) (by omega)) (by rw [HV3.out]; exact HQ.out) (HB5.out.setCell (by show w.heap.size ≤ w.heap.size + 1 + 1; omega) _)
end Go.Proofs.Ytbkfagncoekbkaa
