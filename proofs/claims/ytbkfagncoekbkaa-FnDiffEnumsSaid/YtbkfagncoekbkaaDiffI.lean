import Derived.Test.YtbkfagncoekbkaaStep
import Derived.Test.YtbkfagncoekbkaaBaseC
import Derived.Test.YtbkfagncoekbkaaBaseB
import Derived.Test.YtbkfagncoekbkaaDiffM
namespace Go.Proofs.Ytbkfagncoekbkaa
open Go.RowKit
set_option linter.unusedVariables false
set_option maxRecDepth 100000

set_option maxHeartbeats 16000000 in
theorem implDiff_any (ds es : List D) (A B : Option Addr) (n c m e : Nat) (w : World) (ha : SD w w.heap.size A n c ds) (hb : SD w w.heap.size B m e es) :
    Calls Try.prog 55 #[.agg #[.slice A n c], .agg #[.slice B m e]] w (FreshK (mDiffE ds es) w) := by
  obtain ⟨W0, hW0⟩ : ∃ W0 : World, W0 = ((w.alloc (.cells #[.slice A n c] 58)).alloc (.cells #[.slice B m e] 58)) := ⟨_, rfl⟩
  have hb0 : Below w.heap.size w W0 := by rw [hW0]; exact ((Below.refl _ _).alloc (Nat.le_refl _) _).alloc (by simp) _
  have HC0 : Hid (Cl W0 w.heap.size (.slice A n c)) := Lib.hid (by rw [hW0]; exact ⟨by simp [go_sem], by simp [go_sem]⟩)
  have HC1 : Hid (Cl W0 (w.heap.size + 1) (.slice B m e)) := Lib.hid (by rw [hW0]; exact ⟨by simp [go_sem], by simp [go_sem]⟩)
  have HB0 := Lib.hid hb0
  have HRA := Lib.hid ((ha.below hb0).call hb0.size)
  have HRB := Lib.hid ((hb.below hb0).call hb0.size)
  have HLA := Lib.hid ha.len
  have HLB := Lib.hid hb.len
  have HOA := Lib.hid ha.ok
  have HOB := Lib.hid hb.ok
  have HW0 := Lib.hid hW0.symm
  clear ha hb hb0 hW0
  have HZ0 : Hid (w.heap.size + 2 ≤ W0.heap.size) := Lib.hid (by rw [← HW0.out]; simp)
  cases hv : vEnum ds
  · have HV := Lib.hid hv
    have HM : Hid (mDiffE ds es = []) := Lib.hid (mDiffE_no (.inl hv))
    clear hv
    go_enter Try.func55, Try.ntmps55
    go_wp2_with fail
    rw [HW0.out]
    refine (implVE_v ds _ _ _ _ HRA.out HV.out).mono ?_
    rintro e1 w1 ⟨rfl, hb⟩
    have HB1 := Lib.hid (HB0.out.trans (hb.mono HB0.out.size))
    have hz1 : w.heap.size + 2 ≤ w1.heap.size := Nat.le_trans HZ0.out hb.size
    clear hb
    go_wp2
    go_ret
    rw [HM.out]
    exact FreshK_nil HB1.out
  · have HV := Lib.hid hv
    cases hv2 : vEnum es
    · have HV2 := Lib.hid hv2
      have HM : Hid (mDiffE ds es = []) := Lib.hid (mDiffE_no (.inr hv2))
      clear hv hv2
      go_enter Try.func55, Try.ntmps55
      go_wp2_with fail
      rw [HW0.out]
      refine (implVE_v ds _ _ _ _ HRA.out HV.out).mono ?_
      rintro e1 w1 ⟨rfl, hb⟩
      have HB1 := Lib.hid (HB0.out.trans (hb.mono HB0.out.size))
      have hz1 : w.heap.size + 2 ≤ w1.heap.size := Nat.le_trans HZ0.out hb.size
      have x0 := (HC0.out.below hb).1
      have x1 := (HC1.out.below hb).1
      have HSA1 := Lib.hid ((HRA.out.below hb).call hb.size)
      have HSB1 := Lib.hid ((HRB.out.below hb).call hb.size)
      clear hb
      go_wp2_with fail
      refine (implVE_v es _ _ _ _ HSB1.out HV2.out).mono ?_
      rintro e1 w2 ⟨rfl, hb⟩
      have HB2 := Lib.hid (HB1.out.trans (hb.mono HB1.out.size))
      have hz2 := Nat.le_trans hz1 hb.size
      clear hb
      go_wp2
      go_ret
      rw [HM.out]
      exact FreshK_nil HB2.out
    · have HV2 := Lib.hid hv2
      have h12 := vEnum_len hv
      have h13 := vEnum_len hv2
      have HNA : Hid (n ≤ 12) := Lib.hid (by have := HLA.out; omega)
      have HNB : Hid (m ≤ 12) := Lib.hid (by have := HLB.out; omega)
      have HMD : Hid (mDiffE ds es = mDiff ds es) := Lib.hid (mDiffE_yes HV.out HV2.out)
      rw [HMD.out]
      clear hv hv2
      have HOA0 := HOA
      have HOB0 := HOB
      go_enter Try.func55, Try.ntmps55
      go_wp2_with fail
      rw [HW0.out]
      refine (implVE_v ds _ _ _ _ HRA.out HV.out).mono ?_
      rintro e1 w1 ⟨rfl, hb⟩
      have HB1 := Lib.hid (HB0.out.trans (hb.mono HB0.out.size))
      have hz1 : w.heap.size + 2 ≤ w1.heap.size := Nat.le_trans HZ0.out hb.size
      have x0 := (HC0.out.below hb).1
      have x1 := (HC1.out.below hb).1
      have HSA1 := Lib.hid ((HRA.out.below hb).call hb.size)
      have HSB1 := Lib.hid ((HRB.out.below hb).call hb.size)
      clear hb
      go_wp2_with fail
      refine (implVE_v es _ _ _ _ HSB1.out HV2.out).mono ?_
      rintro e1 w2 ⟨rfl, hb⟩
      have HB2 := Lib.hid (HB1.out.trans (hb.mono HB1.out.size))
      have hz2 := Nat.le_trans hz1 hb.size
      have y0 := keep1 hb x0
      have y1 := keep1 hb x1
      have HSA2 := Lib.hid ((HSA1.out.below hb).call hb.size)
      have HSB2 := Lib.hid ((HSB1.out.below hb).call hb.size)
      clear hb x0 x1 HSA1 HSB1
      obtain rfl := HLA.out
      obtain rfl := HLB.out
      have hcap := HSA2.out.cap
      have hcm := HSA2.out.max
      have hcap2 := HSB2.out.cap
      have hcm2 := HSB2.out.max
      unfold maxLen at hcm hcm2
      go_wp2
      go_loopw [5, 6, 24] (fun v u i wr => ∃ k p q : Nat, k ≤ ds.length ∧ i = .int .i64 k ∧ Hid (p = ((ds.take k).flatMap (dropF es)).length) ∧ Hid (q = ((ds.take k).flatMap (turnF es)).length) ∧ p ≤ k ∧ q ≤ k ∧ Hid (wr.ownsRow w2.heap.size 128 4 v p (flatK ((ds.take k).flatMap (dropF es)))) ∧ Hid (wr.ownsRow w2.heap.size 128 4 u q (flatK ((ds.take k).flatMap (turnF es)))) ∧ Hid (Apart v u) ∧ Hid (Below w2.heap.size w2 wr)) (fun _ _ i _ => ds.length - (intOf i).toNat)
      case atStart => exact ⟨0, 0, 0, Nat.zero_le _, rfl, Lib.hid rfl, Lib.hid rfl, by omega, by omega, Lib.hid (World.ownsRow_nil _ _ _ _), Lib.hid (World.ownsRow_nil _ _ _ _), Lib.hid (.inl rfl), Lib.hid (Below.refl _ _)⟩
      case round =>
        obtain ⟨k, p, q, hk, rfl, hp, hq, hpk, hqk, hop, hot, hap, hbel⟩ := hrel
        have z1 := keep1 hbel.out y1
        by_cases hlt : k < ds.length
        · have HSB3 := Lib.hid ((HSB2.out.below hbel.out).call hbel.out.size)
          have HTL := Lib.hid (fun q hq => hot.out.lt q hq)
          obtain ⟨b, o, rfl, hbb, c1, c2⟩ := (HSA2.out.below hbel.out).at_ hlt
          have HFP := Lib.hid (fm_snoc (dropF es) ds k hlt)
          have HFT := Lib.hid (fm_snoc (turnF es) ds k hlt)
          have hi1 : (k : Int) < (ds.length : Int) := by omega
          have hi0 : (0 : Int) ≤ (k : Int) := by omega
          have hb3 : Below wr.heap.size wr (wr.alloc (.cells #[.string ds[k].name, .int .i64 ds[k].val] 37)) := (Below.refl _ _).alloc (Nat.le_refl _) _
          have z2 := keep1 hb3 z1
          have HS4 := Lib.hid ((HSB3.out.below hb3).call hb3.size)
          have HOP4 := Lib.hid (own_below hop.out hb3)
          have HOT4 := Lib.hid (own_below hot.out hb3)
          have HBR4 := Lib.hid (hbel.out.trans (hb3.mono hbel.out.size))
          have g1 : (wr.alloc (.cells #[.string ds[k].name, .int .i64 ds[k].val] 37)).cell? ⟨wr.heap.size, 0, none⟩ = some (.string ds[k].name) := by simp [go_sem]
          have g2 : (wr.alloc (.cells #[.string ds[k].name, .int .i64 ds[k].val] 37)).cell? ⟨wr.heap.size, 1, none⟩ = some (.int .i64 ds[k].val) := by simp [go_sem]
          clear hb3
          rcases fidx_cases (isNm ds[k].name) es with ⟨hx, _⟩ | ⟨j, hj, hx, hnm, _⟩
          · have HDP := Lib.hid (dropF_yes (b := es) (d := ds[k]) (by omega))
            have HDT := Lib.hid (turnF_none (b := es) (d := ds[k]) (by omega))
            have HX := Lib.hid hx
            clear hx z1
            generalize ds[k] = d at *
            go_wp2_with fail
            refine (indexOfName_v es _ _ _ _ _ HS4.out HX.out).mono ?_
            rintro e2 w5 ⟨rfl, hb5⟩
            have k1 := keep1 hb5 g1
            have k2 := keep1 hb5 g2
            have k3 := keep1 hb5 z2
            have HOP5 := Lib.hid (own_below HOP4.out hb5)
            have HOT5 := Lib.hid (own_below HOT4.out hb5)
            have HBR5 := Lib.hid (HBR4.out.trans (hb5.mono HBR4.out.size))
            clear g1 g2 z2 c1 c2 HOP4 HOT4 HBR4 HS4
            clear hb5
            go_wp2_with fail
            refine (dropChange_any _ _ _).mono ?_
            rintro e2 w6 ⟨rfl, hb6⟩
            have HOP6 := Lib.hid (own_below HOP5.out hb6)
            have HOT6 := Lib.hid (own_below HOT5.out hb6)
            have HBR6 := Lib.hid (HBR5.out.trans (hb6.mono HBR5.out.size))
            clear hb6 k1 k2 k3 HOP5 HOT5 HBR5
            go_wp2_with (
              at_builtin
              refine wpList_app_Kw rfl _ _ rfl w2.heap.size _ p _ rfl HOP6.out _ _ _ _ _ _ rfl (by first | rfl | simp) (by omega) HBR6.out.size ?_
              intro v' w7 ho hg hw
              obtain ⟨A7, c7, rfl⟩ := own_form ho
              have HO7 := Lib.hid ho
              have HOT7 := Lib.hid (own_kept_app HOT6.out hg hap.out)
              have HAP7 := Lib.hid (hap.out.app hw (fun q hq => (HOT6.out.lt q hq).2))
              have HBR7 := Lib.hid (HBR6.out.grown hg HBR6.out.size (fun q hq => (HOP6.out.lt q hq).1))
              clear ho hg hw)
            go_roundw
            case rel => exact ⟨k + 1, p + 1, q, by omega, by go_num, Lib.hid (by rw [HFP.out, HDP.out, List.length_append, ← hp.out]; rfl), Lib.hid (by rw [HFT.out, HDT.out, List.append_nil]; exact hq.out), by omega, by omega, Lib.hid (by rw [HFP.out, HDP.out, flatK_app]; exact HO7.out), Lib.hid (by rw [HFT.out, HDT.out, List.append_nil]; exact HOT7.out), HAP7, HBR7⟩
            case measure => simp [intOf]; omega
          · have HDP := Lib.hid (dropF_no (d := ds[k]) hj hx)
            have hnm2 : (es[j].name.toList == ds[k].name.toList) = true := hnm
            have hj0 : (0 : Int) ≤ (j : Int) := by omega
            have hj1 : (j : Int) < (es.length : Int) := by omega
            have hneg : ¬ ((j : Int) < 0) := by omega
            by_cases hval : es[j].val = ds[k].val
            · have HDT := Lib.hid (turnF_same (d := ds[k]) hj hx hval)
              have hne := fun w => run_neD es[j].name ds[k].name es[j].val ds[k].val w
              rw [show (es[j].name.toList == ds[k].name.toList && es[j].val == ds[k].val) = true by rw [hnm2, hval]; simp, Bool.not_true] at hne
              have HX := Lib.hid hx
              clear hx z1 hnm hnm2 hval
              obtain ⟨b2, o2, rfl, hbb2, e1, e2⟩ := (HSB2.out.below HBR4.out).at_ hj
              generalize ds[k] = d at *
              generalize es[j] = d2 at *
              go_wp2_with fail
              refine (indexOfName_v es _ _ _ _ _ HS4.out HX.out).mono ?_
              rintro e2 w5 ⟨rfl, hb5⟩
              have k1 := keep1 hb5 g1
              have k2 := keep1 hb5 g2
              have k3 := keep1 hb5 z2
              have HOP5 := Lib.hid (own_below HOP4.out hb5)
              have HOT5 := Lib.hid (own_below HOT4.out hb5)
              have HBR5 := Lib.hid (HBR4.out.trans (hb5.mono HBR4.out.size))
              clear g1 g2 z2 c1 c2 HOP4 HOT4 HBR4 HS4
              have l1 := keep1 hb5 e1
              have l2 := keep1 hb5 e2
              clear e1 e2 hb5
              go_wp2
              go_quiet (fail)
              go_wp2
              go_roundw
              case rel => exact ⟨k + 1, p, q, by omega, by go_num, Lib.hid (by rw [HFP.out, HDP.out, List.append_nil]; exact hp.out), Lib.hid (by rw [HFT.out, HDT.out, List.append_nil]; exact hq.out), by omega, by omega, Lib.hid (by rw [HFP.out, HDP.out, List.append_nil]; exact own_drewN HOP5.out _), Lib.hid (by rw [HFT.out, HDT.out, List.append_nil]; exact own_drewN HOT5.out _), hap, Lib.hid (below_drewN HBR5.out _)⟩
              case measure => simp [intOf]; omega
            · have HDT := Lib.hid (turnF_other (d := ds[k]) hj hx hval)
              have hne := fun w => run_neD es[j].name ds[k].name es[j].val ds[k].val w
              rw [show (es[j].name.toList == ds[k].name.toList && es[j].val == ds[k].val) = false by rw [hnm2]; simpa using hval, Bool.not_false] at hne
              have HX := Lib.hid hx
              clear hx z1 hnm hnm2 hval
              obtain ⟨b2, o2, rfl, hbb2, e1, e2⟩ := (HSB2.out.below HBR4.out).at_ hj
              generalize ds[k] = d at *
              generalize es[j] = d2 at *
              go_wp2_with fail
              refine (indexOfName_v es _ _ _ _ _ HS4.out HX.out).mono ?_
              rintro e2 w5 ⟨rfl, hb5⟩
              have k1 := keep1 hb5 g1
              have k2 := keep1 hb5 g2
              have k3 := keep1 hb5 z2
              have HOP5 := Lib.hid (own_below HOP4.out hb5)
              have HOT5 := Lib.hid (own_below HOT4.out hb5)
              have HBR5 := Lib.hid (HBR4.out.trans (hb5.mono HBR4.out.size))
              clear g1 g2 z2 c1 c2 HOP4 HOT4 HBR4 HS4
              have l1 := keep1 hb5 e1
              have l2 := keep1 hb5 e2
              clear e1 e2 hb5
              go_wp2
              go_quiet (fail)
              go_wp2_with fail
              have HOPD := Lib.hid (own_drewN HOP5.out nq)
              have HOTD := Lib.hid (own_drewN HOT5.out nq)
              have HBRD := Lib.hid (below_drewN HBR5.out nq)
              have m1 : (w5.drewN nq).cell? ⟨wr.heap.size, 0, none⟩ = some (.string d.name) := k1
              have m2 : (w5.drewN nq).cell? ⟨wr.heap.size, 1, none⟩ = some (.int .i64 d.val) := k2
              have m3 : (w5.drewN nq).cell? ⟨w.heap.size + 1, 0, none⟩ = some (.slice (some ⟨b2, o2, none⟩) es.length e) := k3
              have m4 : (w5.drewN nq).cell? ⟨b2, o2 + j * 2 + 1, none⟩ = some (.int .i64 d2.val) := l2
              clear k1 k2 k3 l1 l2 HOP5 HOT5 HBR5 hne
              generalize w5.drewN nq = wd at *
              go_region_held3 (fun w' => w'.cell? ⟨wr.heap.size, 0, none⟩ = some (.string d.name) ∧ w'.cell? ⟨wr.heap.size, 1, none⟩ = some (.int .i64 d.val) ∧ w'.cell? ⟨w.heap.size + 1, 0, none⟩ = some (.slice (some ⟨b2, o2, none⟩) es.length e) ∧ w'.cell? ⟨b2, o2 + j * 2 + 1, none⟩ = some (.int .i64 d2.val))
                (first | exact ⟨m1, m2, m3, m4⟩ | (with_reducible exact ⟨n1, n2, n3, n4⟩) | exact ⟨keepA n1, keepA n2, keepA n3, keepA n4⟩ | exact ⟨r1, r2, r3, r4⟩)
                (first
                  | (go_at_call 116; refine (turnChange_any _ _ _ _).mono ?_; rintro e3 w6 ⟨rfl, hb6⟩; replace hb6 : Below wd.heap.size wd w6 := (by first | exact hb6 | exact undrew hb6); have n1 := keep1 hb6 m1; have n2 := keep1 hb6 m2; have n3 := keep1 hb6 m3; have n4 := keep1 hb6 m4; have HOT6 := Lib.hid (own_below HOTD.out hb6); have HOP6 := Lib.hid (own_below HOPD.out hb6); have HBR6 := Lib.hid (HBRD.out.trans (hb6.mono HBRD.out.size)))
                  | (refine step_app_Kw rfl _ _ rfl w2.heap.size _ q _ rfl HOT6.out _ _ _ _ 1 rfl (by omega) HBR6.out.size ?_; intro v' w7 ho hg hw; obtain ⟨A7, c7, rfl⟩ := own_form ho; have HO7 := Lib.hid ho; have HOP7 := Lib.hid (own_kept_app HOP6.out hg hap.out.symm); have HAP7 := Lib.hid (hap.out.symm.app hw (fun q hq => (HOP6.out.lt q hq).2)).symm; have HBR7 := Lib.hid (HBR6.out.grown hg HBR6.out.size (fun q hq => (HOT6.out.lt q hq).1)); have r1 := hg.cell n1 (fun h => by have := HTL.out _ h.symm; simp only at this; omega); have r2 := hg.cell n2 (fun h => by have := HTL.out _ h.symm; simp only at this; omega); have r3 := hg.cell n3 (fun h => by have := HTL.out _ h.symm; simp only at this; omega); have r4 := hg.cell n4 (fun h => by have := HTL.out _ h.symm; simp only at this; omega)))
              clear r1 r2 r3 r4 n1 n2 n3 n4 m1 m2 m3 m4 ho hg hw hb6
              go_wp2
              go_roundw
              case rel => exact ⟨k + 1, p, q + 1, by omega, by go_num, Lib.hid (by rw [HFP.out, HDP.out, List.append_nil]; exact hp.out), Lib.hid (by rw [HFT.out, HDT.out, List.length_append, ← hq.out]; rfl), by omega, by omega, Lib.hid (by rw [HFP.out, HDP.out, List.append_nil]; exact HOP7.out), Lib.hid (by rw [HFT.out, HDT.out, flatK_app]; exact HO7.out), Lib.hid HAP7.out, HBR7⟩
              case measure => simp [intOf]; omega
        · obtain rfl : k = ds.length := by omega
          obtain ⟨A5, c5, rfl⟩ := own_form hop.out
          obtain ⟨A6, c6, rfl⟩ := own_form hot.out
          have HOP := hop
          have HOT := hot
          have HP := hp
          have HQ := hq
          rw [List.take_of_length_le (Nat.le_refl _)] at HOP HOT HP HQ
          obtain ⟨qt, hqt⟩ : ∃ Q : Nat, Q = q := ⟨_, rfl⟩
          subst hqt
          have z0 := keep1 hbel.out y0
          obtain ⟨wo, hwo⟩ : ∃ W : World, W = wr := ⟨_, rfl⟩
          subst hwo
          have HBO := hbel
          clear hop hot hp hq hbel
          go_wp2
          go_loopw [7, 66] (fun v i wr => ∃ k q : Nat, k ≤ es.length ∧ i = .int .i64 k ∧ Hid (q = ((es.take k).flatMap (addF ds)).length) ∧ q ≤ k ∧ Hid (wr.ownsRow w2.heap.size 128 4 v q (flatK ((es.take k).flatMap (addF ds)))) ∧ Hid (wr.ownsRow w2.heap.size 128 4 (.slice A5 p c5) p (flatK (ds.flatMap (dropF es)))) ∧ Hid (wr.ownsRow w2.heap.size 128 4 (.slice A6 qt c6) qt (flatK (ds.flatMap (turnF es)))) ∧ Hid (Apart v (.slice A5 p c5)) ∧ Hid (Apart v (.slice A6 qt c6)) ∧ Hid (Below w2.heap.size w2 wr)) (fun _ i _ => es.length - (intOf i).toNat)
          case atStart => exact ⟨0, 0, Nat.zero_le _, rfl, Lib.hid rfl, by omega, Lib.hid (World.ownsRow_nil _ _ _ _), HOP, HOT, Lib.hid (.inl rfl), Lib.hid (.inl rfl), HBO⟩
          case round =>
            clear HOP HOT HBO z0 z1
            obtain ⟨k, q, hk2, rfl, hq, hqk2, hoa, hop, hot, hap5, hap6, hbel⟩ := hrel
            have z0 := keep1 hbel.out y0
            by_cases hlt : k < es.length
            · have HSA3 := Lib.hid ((HSA2.out.below hbel.out).call hbel.out.size)
              obtain ⟨b, o, rfl, hbb, c1, c2⟩ := (HSB2.out.below hbel.out).at_ hlt
              have HFA := Lib.hid (fm_snoc (addF ds) es k hlt)
              have hi1 : (k : Int) < (es.length : Int) := by omega
              have hi0 : (0 : Int) ≤ (k : Int) := by omega
              have hb3 : Below wr.heap.size wr (wr.alloc (.cells #[.string es[k].name, .int .i64 es[k].val] 37)) := (Below.refl _ _).alloc (Nat.le_refl _) _
              have z2 := keep1 hb3 z0
              have HS4 := Lib.hid ((HSA3.out.below hb3).call hb3.size)
              have HOA4 := Lib.hid (own_below hoa.out hb3)
              have HOP4 := Lib.hid (own_below hop.out hb3)
              have HOT4 := Lib.hid (own_below hot.out hb3)
              have HBR4 := Lib.hid (hbel.out.trans (hb3.mono hbel.out.size))
              have g1 : (wr.alloc (.cells #[.string es[k].name, .int .i64 es[k].val] 37)).cell? ⟨wr.heap.size, 0, none⟩ = some (.string es[k].name) := by simp [go_sem]
              have g2 : (wr.alloc (.cells #[.string es[k].name, .int .i64 es[k].val] 37)).cell? ⟨wr.heap.size, 1, none⟩ = some (.int .i64 es[k].val) := by simp [go_sem]
              clear hb3 z0
              rcases fidx_cases (isNm es[k].name) ds with ⟨hx, _⟩ | ⟨j, hj, hx, hnm, _⟩
              · have HDA := Lib.hid (addF_yes (b := ds) (d := es[k]) (by omega))
                have HX := Lib.hid hx
                clear hx
                generalize es[k] = d at *
                go_wp2_with fail
                refine (indexOfName_v ds _ _ _ _ _ HS4.out HX.out).mono ?_
                rintro e2 w5 ⟨rfl, hb5⟩
                have k1 := keep1 hb5 g1
                have k2 := keep1 hb5 g2
                have k3 := keep1 hb5 z2
                have HOA5 := Lib.hid (own_below HOA4.out hb5)
                have HOP5 := Lib.hid (own_below HOP4.out hb5)
                have HOT5 := Lib.hid (own_below HOT4.out hb5)
                have HBR5 := Lib.hid (HBR4.out.trans (hb5.mono HBR4.out.size))
                clear g1 g2 z2 c1 c2 HOP4 HOT4 HOA4 HBR4 HS4 hb5
                go_wp2_with fail
                refine (addChange_any _ _ _).mono ?_
                rintro e2 w6 ⟨rfl, hb6⟩
                have HOA6 := Lib.hid (own_below HOA5.out hb6)
                have HOP6 := Lib.hid (own_below HOP5.out hb6)
                have HOT6 := Lib.hid (own_below HOT5.out hb6)
                have HBR6 := Lib.hid (HBR5.out.trans (hb6.mono HBR5.out.size))
                clear hb6 k1 k2 k3 HOP5 HOT5 HBR5 HOA5
                go_wp2_with (
                  at_builtin
                  refine wpList_app_Kw rfl _ _ rfl w2.heap.size _ q _ rfl HOA6.out _ _ _ _ _ _ rfl (by first | rfl | simp) (by omega) HBR6.out.size ?_
                  intro v' w7 ho hg hw
                  obtain ⟨A7, c7, rfl⟩ := own_form ho
                  have HO7 := Lib.hid ho
                  have HOP7 := Lib.hid (own_kept_app HOP6.out hg hap5.out)
                  have HOT7 := Lib.hid (own_kept_app HOT6.out hg hap6.out)
                  have HAP7 := Lib.hid (hap5.out.app hw (fun q hq => (HOP6.out.lt q hq).2))
                  have HAT7 := Lib.hid (hap6.out.app hw (fun q hq => (HOT6.out.lt q hq).2))
                  have HBR7 := Lib.hid (HBR6.out.grown hg HBR6.out.size (fun q hq => (HOA6.out.lt q hq).1))
                  clear ho hg hw)
                go_roundw
                case rel => exact ⟨k + 1, q + 1, by omega, by go_num, Lib.hid (by rw [HFA.out, HDA.out, List.length_append, ← hq.out]; rfl), by omega, Lib.hid (by rw [HFA.out, HDA.out, flatK_app]; exact HO7.out), HOP7, HOT7, HAP7, HAT7, HBR7⟩
                case measure => simp [intOf]; omega
              · have HDA := Lib.hid (addF_no (d := es[k]) hj hx)
                have hneg : ¬ ((j : Int) < 0) := by omega
                have HX := Lib.hid hx
                clear hx
                generalize es[k] = d at *
                go_wp2_with fail
                refine (indexOfName_v ds _ _ _ _ _ HS4.out HX.out).mono ?_
                rintro e2 w5 ⟨rfl, hb5⟩
                have k1 := keep1 hb5 g1
                have k2 := keep1 hb5 g2
                have k3 := keep1 hb5 z2
                have HOA5 := Lib.hid (own_below HOA4.out hb5)
                have HOP5 := Lib.hid (own_below HOP4.out hb5)
                have HOT5 := Lib.hid (own_below HOT4.out hb5)
                have HBR5 := Lib.hid (HBR4.out.trans (hb5.mono HBR4.out.size))
                clear g1 g2 z2 c1 c2 HOP4 HOT4 HOA4 HBR4 HS4 hb5
                go_wp2
                go_roundw
                case rel => exact ⟨k + 1, q, by omega, by go_num, Lib.hid (by rw [HFA.out, HDA.out, List.append_nil]; exact hq.out), by omega, Lib.hid (by rw [HFA.out, HDA.out, List.append_nil]; exact HOA5.out), HOP5, HOT5, hap5, hap6, HBR5⟩
                case measure => simp [intOf]; omega
            · obtain rfl : k = es.length := by omega
              obtain ⟨A7, c7, rfl⟩ := own_form hoa.out
              have hoa2 := hoa.out
              have hq2 := hq.out
              rw [List.take_of_length_le (Nat.le_refl _)] at hoa2 hq2
              have HOA := Lib.hid hoa2
              have HQ2 := Lib.hid hq2
              clear hoa hoa2 hq hq2
              have hb3 : Below wr.heap.size wr (wr.alloc (.cells #[.slice A5 p c5, .slice A6 qt c6, .slice A7 q c7] 69)) := (Below.refl _ _).alloc (Nat.le_refl _) _
              have hcm1 := mDiff_ok HOA0.out HOB0.out
              obtain ⟨W3, hW3⟩ : ∃ W : World, W = wr.alloc (.cells #[.slice A5 p c5, .slice A6 qt c6, .slice A7 q c7] 69) := ⟨_, rfl⟩
              rw [← hW3] at hb3
              have hz3 : W3.heap.size = wr.heap.size + 1 := by rw [hW3]; simp
              have HPT : Hid (Rd W3 W3.heap.size 1 encP (some ⟨wr.heap.size, 0, none⟩) [(⟨A5, p, c5, ds.flatMap (dropF es)⟩ : Part Ch), ⟨A6, qt, c6, ds.flatMap (turnF es)⟩, ⟨A7, q, c7, es.flatMap (addF ds)⟩]) := Lib.hid (part3 (by rw [hW3]; simp [go_sem]) (by rw [hW3]; simp [go_sem]) (by rw [hW3]; simp [go_sem]) (by omega))
              have HPS : Hid (∀ x ∈ [(⟨A5, p, c5, ds.flatMap (dropF es)⟩ : Part Ch), ⟨A6, qt, c6, ds.flatMap (turnF es)⟩, ⟨A7, q, c7, es.flatMap (addF ds)⟩], SL encK 4 W3 W3.heap.size x.A x.n x.c x.xs) := Lib.hid (by
                intro x hx
                simp at hx
                rcases hx with rfl | rfl | rfl
                · exact (sk_of_own (own_below hop.out hb3) (fun c hc => hcm1 c (by unfold mDiff; simp [hc]))).sl
                · exact (sk_of_own (own_below hot.out hb3) (fun c hc => hcm1 c (by unfold mDiff; simp [hc]))).sl
                · exact (sk_of_own (own_below HOA.out hb3) (fun c hc => hcm1 c (by unfold mDiff; simp [hc]))).sl)
              have HE : Hid (cat [(⟨A5, p, c5, ds.flatMap (dropF es)⟩ : Part Ch), ⟨A6, qt, c6, ds.flatMap (turnF es)⟩, ⟨A7, q, c7, es.flatMap (addF ds)⟩] = mDiff ds es) := Lib.hid (by unfold mDiff; simp [cat])
              have HML : Hid ((mDiff ds es).length ≤ 1000) := Lib.hid (by have := mDiff_len ds es; omega)
              have HB3 := Lib.hid (hbel.out.trans (hb3.mono hbel.out.size))
              have HW3 := Lib.hid hW3.symm
              clear hb3 hcm1 hW3 hz3
              go_wp2_with fail
              rw [HW3.out]
              refine (concatK_v _ _ _ _ _ HPT.out rfl (by simp) (by omega) HPS.out HE.out HML.out).mono ?_
              rintro e2 w8 ⟨A8, c8, rfl, ho, hb8⟩
              have HO8 := Lib.hid (own_base (base' := w.heap.size) ho (by have := HB3.out.size; have := HB2.out.size; omega))
              have HB8 := Lib.hid (HB2.out.trans ((HB3.out.trans (hb8.mono HB3.out.size)).mono HB2.out.size))
              clear ho hb8
              go_wp2
              go_ret
              exact ⟨A8, c8, rfl, HO8.out, HB8.out⟩
end Go.Proofs.Ytbkfagncoekbkaa
