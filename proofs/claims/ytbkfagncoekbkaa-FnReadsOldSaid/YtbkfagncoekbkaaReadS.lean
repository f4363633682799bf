import Derived.Test.YtbkfagncoekbkaaReadP
import Derived.Test.YtbkfagncoekbkaaBaseB
import Derived.Test.YtbkfagncoekbkaaBaseC
namespace Go.Proofs.Ytbkfagncoekbkaa
open Go.RowKit
set_option linter.unusedVariables false
set_option maxRecDepth 100000

set_option maxHeartbeats 16000000 in
theorem specReads_any (ds es : List D) (A B : Option Addr) (n c m e : Nat) (w : World) (ha : SD w w.heap.size A n c ds) (hb : SD w w.heap.size B m e es) :
    Calls Try.prog 65 #[.agg #[.slice A n c], .agg #[.slice B m e]] w fun en w' => en = .returned (.bool (mReads ds es)) ∧ Below w.heap.size w w' := by
  obtain ⟨W0, hW0⟩ : ∃ W0 : World, W0 = ((w.alloc (.cells #[.slice A n c] 58)).alloc (.cells #[.slice B m e] 58)) := ⟨_, rfl⟩
  have hb0 : Below w.heap.size w W0 := by rw [hW0]; exact ((Below.refl _ _).alloc (Nat.le_refl _) _).alloc (by simp) _
  have HC0 : Hid (Cl W0 w.heap.size (.slice A n c)) := Lib.hid (by rw [hW0]; exact ⟨by simp [go_sem], by simp [go_sem]⟩)
  have HC1 : Hid (Cl W0 (w.heap.size + 1) (.slice B m e)) := Lib.hid (by rw [hW0]; exact ⟨by simp [go_sem], by simp [go_sem]⟩)
  have HB0 := Lib.hid hb0
  have HRA := Lib.hid ((ha.below hb0).call hb0.size)
  have HRB := Lib.hid ((hb.below hb0).call hb0.size)
  have HLA := Lib.hid ha.len
  have HLB := Lib.hid hb.len
  have HOA := Lib.hid ha.ok
  have HOB := Lib.hid hb.ok
  have HW0 := Lib.hid hW0.symm
  clear ha hb hb0 hW0
  have HZ0 : Hid (w.heap.size + 2 ≤ W0.heap.size) := Lib.hid (by rw [← HW0.out]; simp)
  cases hv : vEnum ds
  · have HV := Lib.hid hv
    have HM : Hid (mReads ds es = false) := Lib.hid (mReads_no (.inl hv))
    clear hv
    go_enter Try.func65, Try.ntmps65
    go_wp2_with fail
    rw [HW0.out]
    refine (specVE_v ds _ _ _ _ HRA.out HV.out).mono ?_
    rintro e1 w1 ⟨rfl, hb⟩
    have HB1 := Lib.hid (HB0.out.trans (hb.mono HB0.out.size))
    have hz1 : w.heap.size + 2 ≤ w1.heap.size := Nat.le_trans HZ0.out hb.size
    clear hb
    go_wp2
    go_ret
    exact ⟨ret_bool HM.out.symm, HB1.out⟩
  · have HV := Lib.hid hv
    cases hv2 : vEnum es
    · have HV2 := Lib.hid hv2
      have HM : Hid (mReads ds es = false) := Lib.hid (mReads_no (.inr hv2))
      clear hv hv2
      go_enter Try.func65, Try.ntmps65
      go_wp2_with fail
      rw [HW0.out]
      refine (specVE_v ds _ _ _ _ HRA.out HV.out).mono ?_
      rintro e1 w1 ⟨rfl, hb⟩
      have HB1 := Lib.hid (HB0.out.trans (hb.mono HB0.out.size))
      have hz1 : w.heap.size + 2 ≤ w1.heap.size := Nat.le_trans HZ0.out hb.size
      have x0 := (HC0.out.below hb).1
      have x1 := (HC1.out.below hb).1
      have HSA1 := Lib.hid ((HRA.out.below hb).call hb.size)
      have HSB1 := Lib.hid ((HRB.out.below hb).call hb.size)
      clear hb
      go_wp2_with fail
      refine (specVE_v es _ _ _ _ HSB1.out HV2.out).mono ?_
      rintro e1 w2 ⟨rfl, hb⟩
      have HB2 := Lib.hid (HB1.out.trans (hb.mono HB1.out.size))
      have hz2 := Nat.le_trans hz1 hb.size
      clear hb
      go_wp2
      go_ret
      exact ⟨ret_bool HM.out.symm, HB2.out⟩
    · have HV2 := Lib.hid hv2
      have h12 := vEnum_len hv
      have h13 := vEnum_len hv2
      have HNA : Hid (n ≤ 12) := Lib.hid (by have := HLA.out; omega)
      have HNB : Hid (m ≤ 12) := Lib.hid (by have := HLB.out; omega)
      clear hv hv2
      go_enter Try.func65, Try.ntmps65
      go_wp2_with fail
      rw [HW0.out]
      refine (specVE_v ds _ _ _ _ HRA.out HV.out).mono ?_
      rintro e1 w1 ⟨rfl, hb⟩
      have HB1 := Lib.hid (HB0.out.trans (hb.mono HB0.out.size))
      have hz1 : w.heap.size + 2 ≤ w1.heap.size := Nat.le_trans HZ0.out hb.size
      have x0 := (HC0.out.below hb).1
      have x1 := (HC1.out.below hb).1
      have HSA1 := Lib.hid ((HRA.out.below hb).call hb.size)
      have HSB1 := Lib.hid ((HRB.out.below hb).call hb.size)
      clear hb
      go_wp2_with fail
      refine (specVE_v es _ _ _ _ HSB1.out HV2.out).mono ?_
      rintro e1 w2 ⟨rfl, hb⟩
      have HB2 := Lib.hid (HB1.out.trans (hb.mono HB1.out.size))
      have hz2 := Nat.le_trans hz1 hb.size
      have y0 := keep1 hb x0
      have y1 := keep1 hb x1
      have HSA2 := Lib.hid ((HSA1.out.below hb).call hb.size)
      have HSB2 := Lib.hid ((HSB1.out.below hb).call hb.size)
      clear hb x0 x1 HSA1 HSB1
      obtain rfl := HLA.out
      obtain rfl := HLB.out
      have hcap := HSA2.out.cap
      have hcm := HSA2.out.max
      have hcapb := HSB2.out.cap
      have hcmb := HSB2.out.max
      unfold maxLen at hcm hcmb
      go_wp2_with fail
      refine (members_any ds _ _ _ _ HSA2.out (by omega)).mono ?_
      rintro e2 w4 ⟨A4, c4, rfl, ho, hb4⟩
      have HMO := Lib.hid (sd_of_own ho (fun d hd => HOA.out d (memTo_in _ _ d hd)))
      have HIN : Hid (∀ d ∈ mems ds, d ∈ ds) := Lib.hid (fun d hd => memTo_in _ _ d hd)
      have HCV := Lib.hid (mems_cover ds)
      have u0 := keep1 hb4 y0
      have u1 := keep1 hb4 y1
      have HA4 := Lib.hid ((HSA2.out.below hb4).call hb4.size)
      have HB4' := Lib.hid ((HSB2.out.below hb4).call hb4.size)
      have HB4 := Lib.hid (HB2.out.trans (hb4.mono HB2.out.size))
      clear ho hb4 y0 y1
      generalize mems ds = ms at *
      have hcap4 := HMO.out.cap
      have hcm4 := HMO.out.max
      unfold maxLen at hcm4
      go_wp2
      go_loopw [6] (fun i wr => ∃ k : Nat, k ≤ ms.length ∧ i = .int .i64 k ∧ Hid (∀ j (h : j < ms.length), j < k → readV ds es ms[j].val = true) ∧ Hid (∃ q, wr = w4.drewN q)) (fun i _ => ms.length - (intOf i).toNat)
      case atStart => exact ⟨0, Nat.zero_le _, rfl, Lib.hid (fun j h hj => absurd hj (by omega)), Lib.hid ⟨0, rfl⟩⟩
      case round =>
        obtain ⟨k, hk, rfl, hok, hdr⟩ := hrel
        have HBW : Hid (Below w.heap.size w wr) := Lib.hid (by obtain ⟨q, rfl⟩ := hdr.out; exact below_drewN HB4.out q)
        have HQ : ∀ m, Hid (∃ q, wr.drewN m = w4.drewN q) := fun m => Lib.hid (by obtain ⟨q, rfl⟩ := hdr.out; exact ⟨_, World.drewN_drewN _ _ _⟩)
        have z0 : wr.cell? ⟨w.heap.size, 0, none⟩ = some (.slice A ds.length c) := by obtain ⟨q, rfl⟩ := hdr.out; exact u0
        have z1 : wr.cell? ⟨w.heap.size + 1, 0, none⟩ = some (.slice B es.length e) := by obtain ⟨q, rfl⟩ := hdr.out; exact u1
        have HAr : Hid (SD wr wr.heap.size A ds.length c ds) := Lib.hid (by obtain ⟨q, rfl⟩ := hdr.out; exact HA4.out.drewN q)
        have HBr : Hid (SD wr wr.heap.size B es.length e es) := Lib.hid (by obtain ⟨q, rfl⟩ := hdr.out; exact HB4'.out.drewN q)
        have HMr : Hid (SD wr wr.heap.size A4 ms.length c4 ms) := Lib.hid (by obtain ⟨q, rfl⟩ := hdr.out; exact HMO.out.drewN q)
        by_cases hlt : k < ms.length
        · obtain ⟨b, o, rfl, hbb, c1, c2⟩ := HMr.out.at_ hlt
          have hi1 : (k : Int) < (ms.length : Int) := by omega
          have hi0 : (0 : Int) ≤ (k : Int) := by omega
          have HMEM := Lib.hid (HIN.out _ (List.getElem_mem hlt))
          rcases fidx_cases (isVal ms[k].val) es with ⟨hx, _⟩ | ⟨j, hj, hx, _⟩
          · have HNO := Lib.hid (mReads_bad HMEM.out (readV_none (a := ds) (b := es) (by omega)))
            have HX := Lib.hid hx
            clear hx
            generalize ms[k] = d at *
            go_wp2
            go_quiet ((go_at_call 127; exact quiet_eq (valueAt_v es d.val _ _ _ _ (HBr.out.drewN _) HX.out)))
            go_wp2
            go_ret
            exact ⟨ret_bool HNO.out.symm, below_drewN HBW.out _⟩
          · have hj0 : (0 : Int) ≤ (j : Int) := by omega
            have hj1 : (j : Int) < (es.length : Int) := by omega
            have hneg : ¬ ((j : Int) < 0) := by omega
            rcases fidx_cases (isNm es[j].name) ds with ⟨hy, _⟩ | ⟨i, hi, hy, _⟩
            · have HNO := Lib.hid (mReads_bad (b := es) HMEM.out (readV_no hj hx (by omega)))
              have HX := Lib.hid hx
              have HY := Lib.hid hy
              clear hx hy
              obtain ⟨b2, o2, rfl, hbb2, l1, l2⟩ := HBr.out.at_ hj
              generalize es[j] = d2 at *
              generalize ms[k] = d at *
              go_wp2
              go_quiet ((go_at_call 127; exact quiet_eq (valueAt_v es d.val _ _ _ _ (HBr.out.drewN _) HX.out)))
              have HAd : Hid (SD (wr.drewN nq) (wr.drewN nq).heap.size _ ds.length c ds) := Lib.hid (HAr.out.drewN nq)
              have HBWd := Lib.hid (below_drewN HBW.out nq)
              have HQd : Hid (∀ m, Hid (∃ q, (wr.drewN nq).drewN m = w4.drewN q)) := Lib.hid (fun m => Lib.hid (by obtain ⟨q, hq⟩ := (HQ nq).out; rw [hq]; exact ⟨_, World.drewN_drewN _ _ _⟩))
              have v0 : (wr.drewN nq).cell? ⟨w.heap.size, 0, none⟩ = _ := z0
              have v1 : (wr.drewN nq).cell? ⟨w.heap.size + 1, 0, none⟩ = _ := z1
              have v2 : (wr.drewN nq).cell? ⟨b, o + k * 2, none⟩ = _ := c1
              have v3 : (wr.drewN nq).cell? ⟨b, o + k * 2 + 1, none⟩ = _ := c2
              have v4 : (wr.drewN nq).cell? ⟨b2, o2 + j * 2, none⟩ = _ := l1
              have v5 : (wr.drewN nq).cell? ⟨b2, o2 + j * 2 + 1, none⟩ = _ := l2
              clear z0 z1 c1 c2 l1 l2 HBr HMr HAr HBW HQ hdr
              generalize wr.drewN nq = wd at *
              go_wp2
              go_quiet ((go_at_call 106; exact quiet_eq (indexOf_v ds d2.name _ _ _ _ (HAd.out.drewN _) HY.out)))
              have HBX := Lib.hid (below_drewN HBWd.out nq)
              have HQW : Hid (∀ m, Hid (∃ q, (wd.drewN nq).drewN m = w4.drewN q)) := Lib.hid (fun m => Lib.hid (by obtain ⟨q, hq⟩ := (HQd.out nq).out; rw [hq]; exact ⟨_, World.drewN_drewN _ _ _⟩))
              have s0 : (wd.drewN nq).cell? ⟨w.heap.size, 0, none⟩ = _ := v0
              have s2 : (wd.drewN nq).cell? ⟨b, o + k * 2 + 1, none⟩ = _ := v3
              clear v0 v1 v2 v3 v4 v5 HAd HBWd HQd
              generalize wd.drewN nq = we at *
              go_wp2
              go_quiet (fail)
              go_wp2
              go_ret
              exact ⟨ret_bool HNO.out.symm, below_drewN HBX.out _⟩
            · have hi2 : (0 : Int) ≤ (i : Int) := by omega
              have hi3 : (i : Int) < (ds.length : Int) := by omega
              have hneg2 : ¬ ((i : Int) < 0) := by omega
              have HRV := Lib.hid (readV_at hj hx hi hy)
              cases hq : (ds[i].val != ms[k].val)
              · have HYES : Hid (readV ds es ms[k].val = true) := Lib.hid (by rw [HRV.out]; simpa using hq)
                have HX := Lib.hid hx
                have HY := Lib.hid hy
                clear hx hy HRV
                obtain ⟨b2, o2, rfl, hbb2, l1, l2⟩ := HBr.out.at_ hj
                obtain ⟨b3, o3, rfl, hbb3, m1, m2⟩ := HAr.out.at_ hi
                generalize es[j] = d2 at *
                generalize hdd : ms[k] = d at *
                have HDD := Lib.hid hdd
                clear hdd
                generalize ds[i] = d3 at *
                go_wp2
                go_quiet ((go_at_call 127; exact quiet_eq (valueAt_v es d.val _ _ _ _ (HBr.out.drewN _) HX.out)))
                have HAd : Hid (SD (wr.drewN nq) (wr.drewN nq).heap.size _ ds.length c ds) := Lib.hid (HAr.out.drewN nq)
                have HBWd := Lib.hid (below_drewN HBW.out nq)
                have HQd : Hid (∀ m, Hid (∃ q, (wr.drewN nq).drewN m = w4.drewN q)) := Lib.hid (fun m => Lib.hid (by obtain ⟨q, hq⟩ := (HQ nq).out; rw [hq]; exact ⟨_, World.drewN_drewN _ _ _⟩))
                have v0 : (wr.drewN nq).cell? ⟨w.heap.size, 0, none⟩ = _ := z0
                have v1 : (wr.drewN nq).cell? ⟨w.heap.size + 1, 0, none⟩ = _ := z1
                have v2 : (wr.drewN nq).cell? ⟨b, o + k * 2, none⟩ = _ := c1
                have v3 : (wr.drewN nq).cell? ⟨b, o + k * 2 + 1, none⟩ = _ := c2
                have v4 : (wr.drewN nq).cell? ⟨b2, o2 + j * 2, none⟩ = _ := l1
                have v5 : (wr.drewN nq).cell? ⟨b2, o2 + j * 2 + 1, none⟩ = _ := l2
                have v6 : (wr.drewN nq).cell? ⟨b3, o3 + i * 2, none⟩ = _ := m1
                have v7 : (wr.drewN nq).cell? ⟨b3, o3 + i * 2 + 1, none⟩ = _ := m2
                clear z0 z1 c1 c2 l1 l2 m1 m2 HBr HMr HAr HBW HQ hdr
                generalize wr.drewN nq = wd at *
                go_wp2
                go_quiet ((go_at_call 106; exact quiet_eq (indexOf_v ds d2.name _ _ _ _ (HAd.out.drewN _) HY.out)))
                have HBX := Lib.hid (below_drewN HBWd.out nq)
                have HQW : Hid (∀ m, Hid (∃ q, (wd.drewN nq).drewN m = w4.drewN q)) := Lib.hid (fun m => Lib.hid (by obtain ⟨q, hq⟩ := (HQd.out nq).out; rw [hq]; exact ⟨_, World.drewN_drewN _ _ _⟩))
                have s0 : (wd.drewN nq).cell? ⟨w.heap.size, 0, none⟩ = _ := v0
                have s2 : (wd.drewN nq).cell? ⟨b, o + k * 2 + 1, none⟩ = _ := v3
                have s3 : (wd.drewN nq).cell? ⟨b3, o3 + i * 2 + 1, none⟩ = _ := v7
                clear v0 v1 v2 v3 v4 v5 v6 v7 HAd HBWd HQd
                generalize wd.drewN nq = we at *
                go_wp2
                go_quiet (fail)
                go_wp2
                go_roundw
                case rel => exact ⟨k + 1, by omega, by go_num, Lib.hid (fun i hi h => by by_cases e : i = k; subst e; rw [HDD.out]; exact HYES.out; exact hok.out i hi (by omega)), HQW.out _⟩
                case measure => simp [intOf]; omega
              · have HNO := Lib.hid (mReads_bad (b := es) HMEM.out (by rw [HRV.out]; simpa using hq))
                have HX := Lib.hid hx
                have HY := Lib.hid hy
                clear hx hy HRV
                obtain ⟨b2, o2, rfl, hbb2, l1, l2⟩ := HBr.out.at_ hj
                obtain ⟨b3, o3, rfl, hbb3, m1, m2⟩ := HAr.out.at_ hi
                generalize es[j] = d2 at *
                generalize ms[k] = d at *
                generalize ds[i] = d3 at *
                go_wp2
                go_quiet ((go_at_call 127; exact quiet_eq (valueAt_v es d.val _ _ _ _ (HBr.out.drewN _) HX.out)))
                have HAd : Hid (SD (wr.drewN nq) (wr.drewN nq).heap.size _ ds.length c ds) := Lib.hid (HAr.out.drewN nq)
                have HBWd := Lib.hid (below_drewN HBW.out nq)
                have HQd : Hid (∀ m, Hid (∃ q, (wr.drewN nq).drewN m = w4.drewN q)) := Lib.hid (fun m => Lib.hid (by obtain ⟨q, hq⟩ := (HQ nq).out; rw [hq]; exact ⟨_, World.drewN_drewN _ _ _⟩))
                have v0 : (wr.drewN nq).cell? ⟨w.heap.size, 0, none⟩ = _ := z0
                have v1 : (wr.drewN nq).cell? ⟨w.heap.size + 1, 0, none⟩ = _ := z1
                have v2 : (wr.drewN nq).cell? ⟨b, o + k * 2, none⟩ = _ := c1
                have v3 : (wr.drewN nq).cell? ⟨b, o + k * 2 + 1, none⟩ = _ := c2
                have v4 : (wr.drewN nq).cell? ⟨b2, o2 + j * 2, none⟩ = _ := l1
                have v5 : (wr.drewN nq).cell? ⟨b2, o2 + j * 2 + 1, none⟩ = _ := l2
                have v6 : (wr.drewN nq).cell? ⟨b3, o3 + i * 2, none⟩ = _ := m1
                have v7 : (wr.drewN nq).cell? ⟨b3, o3 + i * 2 + 1, none⟩ = _ := m2
                clear z0 z1 c1 c2 l1 l2 m1 m2 HBr HMr HAr HBW HQ hdr
                generalize wr.drewN nq = wd at *
                go_wp2
                go_quiet ((go_at_call 106; exact quiet_eq (indexOf_v ds d2.name _ _ _ _ (HAd.out.drewN _) HY.out)))
                have HBX := Lib.hid (below_drewN HBWd.out nq)
                have HQW : Hid (∀ m, Hid (∃ q, (wd.drewN nq).drewN m = w4.drewN q)) := Lib.hid (fun m => Lib.hid (by obtain ⟨q, hq⟩ := (HQd.out nq).out; rw [hq]; exact ⟨_, World.drewN_drewN _ _ _⟩))
                have s0 : (wd.drewN nq).cell? ⟨w.heap.size, 0, none⟩ = _ := v0
                have s2 : (wd.drewN nq).cell? ⟨b, o + k * 2 + 1, none⟩ = _ := v3
                have s3 : (wd.drewN nq).cell? ⟨b3, o3 + i * 2 + 1, none⟩ = _ := v7
                clear v0 v1 v2 v3 v4 v5 v6 v7 HAd HBWd HQd
                generalize wd.drewN nq = we at *
                go_wp2
                go_quiet (fail)
                go_wp2
                go_ret
                exact ⟨ret_bool HNO.out.symm, below_drewN HBX.out _⟩
        · obtain rfl : k = ms.length := by omega
          go_wp2
          go_ret
          refine ⟨ret_bool (mReads_all HV.out HV2.out fun d hd => ?_).symm, HBW.out⟩
          obtain ⟨m, hm, hmv⟩ := HCV.out d hd
          obtain ⟨i, hi, rfl⟩ := List.mem_iff_getElem.1 hm
          rw [← hmv]
          exact hok.out i hi hi
end Go.Proofs.Ytbkfagncoekbkaa
