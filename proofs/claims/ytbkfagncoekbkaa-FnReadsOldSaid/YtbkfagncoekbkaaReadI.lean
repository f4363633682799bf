import Derived.Test.YtbkfagncoekbkaaReadP
import Derived.Test.YtbkfagncoekbkaaBaseC
import Derived.Test.YtbkfagncoekbkaaBaseB
namespace Go.Proofs.Ytbkfagncoekbkaa
open Go.RowKit
set_option linter.unusedVariables false
set_option maxRecDepth 100000

set_option maxHeartbeats 16000000 in
theorem implReads_any (ds es : List D) (A B : Option Addr) (n c m e : Nat) (w : World) (ha : SD w w.heap.size A n c ds) (hb : SD w w.heap.size B m e es) :
    Calls Try.prog 64 #[.agg #[.slice A n c], .agg #[.slice B m e]] w fun en w' => en = .returned (.bool (mReads ds es)) ∧ Below w.heap.size w w' := by
  obtain ⟨W0, hW0⟩ : ∃ W0 : World, W0 = ((w.alloc (.cells #[.slice A n c] 58)).alloc (.cells #[.slice B m e] 58)) := ⟨_, rfl⟩
  have hb0 : Below w.heap.size w W0 := by rw [hW0]; exact ((Below.refl _ _).alloc (Nat.le_refl _) _).alloc (by simp) _
  have HC0 : Hid (Cl W0 w.heap.size (.slice A n c)) := Lib.hid (by rw [hW0]; exact ⟨by simp [go_sem], by simp [go_sem]⟩)
  have HC1 : Hid (Cl W0 (w.heap.size + 1) (.slice B m e)) := Lib.hid (by rw [hW0]; exact ⟨by simp [go_sem], by simp [go_sem]⟩)
  have HB0 := Lib.hid hb0
  have HRA := Lib.hid ((ha.below hb0).call hb0.size)
  have HRB := Lib.hid ((hb.below hb0).call hb0.size)
  have HLA := Lib.hid ha.len
  have HLB := Lib.hid hb.len
  have HOA := Lib.hid ha.ok
  have HOB := Lib.hid hb.ok
  have HW0 := Lib.hid hW0.symm
  clear ha hb hb0 hW0
  have HZ0 : Hid (w.heap.size + 2 ≤ W0.heap.size) := Lib.hid (by rw [← HW0.out]; simp)
  cases hv : vEnum ds
  · have HV := Lib.hid hv
    have HM : Hid (mReads ds es = false) := Lib.hid (mReads_no (.inl hv))
    clear hv
    go_enter Try.func64, Try.ntmps64
    go_wp2_with fail
    rw [HW0.out]
    refine (implVE_v ds _ _ _ _ HRA.out HV.out).mono ?_
    rintro e1 w1 ⟨rfl, hb⟩
    have HB1 := Lib.hid (HB0.out.trans (hb.mono HB0.out.size))
    have hz1 : w.heap.size + 2 ≤ w1.heap.size := Nat.le_trans HZ0.out hb.size
    clear hb
    go_wp2
    go_ret
    exact ⟨ret_bool HM.out.symm, HB1.out⟩
  · have HV := Lib.hid hv
    cases hv2 : vEnum es
    · have HV2 := Lib.hid hv2
      have HM : Hid (mReads ds es = false) := Lib.hid (mReads_no (.inr hv2))
      clear hv hv2
      go_enter Try.func64, Try.ntmps64
      go_wp2_with fail
      rw [HW0.out]
      refine (implVE_v ds _ _ _ _ HRA.out HV.out).mono ?_
      rintro e1 w1 ⟨rfl, hb⟩
      have HB1 := Lib.hid (HB0.out.trans (hb.mono HB0.out.size))
      have hz1 : w.heap.size + 2 ≤ w1.heap.size := Nat.le_trans HZ0.out hb.size
      have x0 := (HC0.out.below hb).1
      have x1 := (HC1.out.below hb).1
      have HSA1 := Lib.hid ((HRA.out.below hb).call hb.size)
      have HSB1 := Lib.hid ((HRB.out.below hb).call hb.size)
      clear hb
      go_wp2_with fail
      refine (implVE_v es _ _ _ _ HSB1.out HV2.out).mono ?_
      rintro e1 w2 ⟨rfl, hb⟩
      have HB2 := Lib.hid (HB1.out.trans (hb.mono HB1.out.size))
      have hz2 := Nat.le_trans hz1 hb.size
      clear hb
      go_wp2
      go_ret
      exact ⟨ret_bool HM.out.symm, HB2.out⟩
    · have HV2 := Lib.hid hv2
      have h12 := vEnum_len hv
      have h13 := vEnum_len hv2
      have HNA : Hid (n ≤ 12) := Lib.hid (by have := HLA.out; omega)
      have HNB : Hid (m ≤ 12) := Lib.hid (by have := HLB.out; omega)
      clear hv hv2
      go_enter Try.func64, Try.ntmps64
      go_wp2_with fail
      rw [HW0.out]
      refine (implVE_v ds _ _ _ _ HRA.out HV.out).mono ?_
      rintro e1 w1 ⟨rfl, hb⟩
      have HB1 := Lib.hid (HB0.out.trans (hb.mono HB0.out.size))
      have hz1 : w.heap.size + 2 ≤ w1.heap.size := Nat.le_trans HZ0.out hb.size
      have x0 := (HC0.out.below hb).1
      have x1 := (HC1.out.below hb).1
      have HSA1 := Lib.hid ((HRA.out.below hb).call hb.size)
      have HSB1 := Lib.hid ((HRB.out.below hb).call hb.size)
      clear hb
      go_wp2_with fail
      refine (implVE_v es _ _ _ _ HSB1.out HV2.out).mono ?_
      rintro e1 w2 ⟨rfl, hb⟩
      have HB2 := Lib.hid (HB1.out.trans (hb.mono HB1.out.size))
      have hz2 := Nat.le_trans hz1 hb.size
      have y0 := keep1 hb x0
      have y1 := keep1 hb x1
      have HSA2 := Lib.hid ((HSA1.out.below hb).call hb.size)
      have HSB2 := Lib.hid ((HSB1.out.below hb).call hb.size)
      clear hb x0 x1 HSA1 HSB1
      obtain rfl := HLA.out
      obtain rfl := HLB.out
      have hcap := HSA2.out.cap
      have hcm := HSA2.out.max
      unfold maxLen at hcm
      go_wp2
      go_loopw [20] (fun i wr => ∃ k : Nat, k ≤ ds.length ∧ i = .int .i64 k ∧ Hid (∀ j (h : j < ds.length), j < k → readV ds es ds[j].val = true) ∧ Hid (Below w2.heap.size w2 wr)) (fun i _ => ds.length - (intOf i).toNat)
      case atStart => exact ⟨0, Nat.zero_le _, rfl, Lib.hid (fun j h hj => absurd hj (by omega)), Lib.hid (Below.refl _ _)⟩
      case round =>
        obtain ⟨k, hk, rfl, hok, hbel⟩ := hrel
        have z0 := keep1 hbel.out y0
        have z1 := keep1 hbel.out y1
        by_cases hlt : k < ds.length
        · have HSA3 := Lib.hid ((HSA2.out.below hbel.out).call hbel.out.size)
          have HSB3 := Lib.hid ((HSB2.out.below hbel.out).call hbel.out.size)
          obtain ⟨b, o, rfl, hbb, c1, c2⟩ := (HSA2.out.below hbel.out).at_ hlt
          have hi1 : (k : Int) < (ds.length : Int) := by omega
          have hi0 : (0 : Int) ≤ (k : Int) := by omega
          have HMEM := Lib.hid (List.getElem_mem hlt)
          have HI := Lib.hid (HOA.out _ (List.getElem_mem hlt)).2
          have hb3 : Below wr.heap.size wr (wr.alloc (.cells #[.string ds[k].name, .int .i64 ds[k].val] 37)) := (Below.refl _ _).alloc (Nat.le_refl _) _
          have t0 := keep1 hb3 z0
          have t1 := keep1 hb3 z1
          have HSB4 := Lib.hid ((HSB3.out.below hb3).call hb3.size)
          have HSA4 := Lib.hid ((HSA3.out.below hb3).call hb3.size)
          have HBR4 := Lib.hid (hbel.out.trans (hb3.mono hbel.out.size))
          have g1 : (wr.alloc (.cells #[.string ds[k].name, .int .i64 ds[k].val] 37)).cell? ⟨wr.heap.size, 0, none⟩ = some (.string ds[k].name) := by simp [go_sem]
          have g2 : (wr.alloc (.cells #[.string ds[k].name, .int .i64 ds[k].val] 37)).cell? ⟨wr.heap.size, 1, none⟩ = some (.int .i64 ds[k].val) := by simp [go_sem]
          clear hb3 z0 z1
          rcases fidx_cases (isVal ds[k].val) es with ⟨hx, _⟩ | ⟨j, hj, hx, _⟩
          · have HNO := Lib.hid (mReads_bad HMEM.out (readV_none (a := ds) (b := es) (by omega)))
            have HX : Hid (fidx (isVal ds[k].val) es < 0) := Lib.hid (by omega)
            clear hx
            generalize ds[k] = d at *
            go_wp2_with fail
            refine (implNameOf_none es _ _ _ _ _ HSB4.out HV2.out HX.out HI.out).mono ?_
            rintro e3 w5 ⟨rfl, hb5⟩
            have HBR5 := Lib.hid (HBR4.out.trans (hb5.mono HBR4.out.size))
            clear hb5
            go_wp2
            go_ret
            exact ⟨ret_bool HNO.out.symm, HB2.out.trans (HBR5.out.mono HB2.out.size)⟩
          · have HX := Lib.hid hx
            have HRV := Lib.hid (readV_any (vEnum_nodup HV.out) hj hx)
            have HNM := Lib.hid (implNameOf_yes es ds[k].val B e es.length _ HSB4.out HV2.out j hj hx)
            clear hx
            cases hp : ds.any (isD ⟨es[j].name, ds[k].val⟩)
            · have HNO := Lib.hid (mReads_bad (b := es) HMEM.out (by rw [HRV.out, hp]))
              have HP := Lib.hid hp
              clear hp
              generalize es[j].name = nm at *
              generalize ds[k] = d at *
              go_wp2_with fail
              refine HNM.out.mono ?_
              rintro e3 w5 ⟨rfl, hb5⟩
              have k0 := keep1 hb5 t0
              have k2 := keep1 hb5 g2
              have HSA5 := Lib.hid ((HSA4.out.below hb5).call hb5.size)
              have HBR5 := Lib.hid (HBR4.out.trans (hb5.mono HBR4.out.size))
              clear g1 g2 t0 t1 hb5 HNM HBR4
              go_wp2_with fail
              refine (containsD_v ds ⟨nm, d.val⟩ _ _ _ _ HSA5.out HP.out).mono ?_
              rintro e3 w6 ⟨rfl, hb6⟩
              have HBR6 := Lib.hid (HBR5.out.trans (hb6.mono HBR5.out.size))
              clear hb6
              go_wp2
              go_ret
              exact ⟨ret_bool HNO.out.symm, HB2.out.trans (HBR6.out.mono HB2.out.size)⟩
            · have HYES : Hid (readV ds es ds[k].val = true) := Lib.hid (by rw [HRV.out, hp])
              have HP := Lib.hid hp
              clear hp
              generalize es[j].name = nm at *
              generalize hdd : ds[k] = d at *
              have HDD := Lib.hid hdd
              clear hdd
              go_wp2_with fail
              refine HNM.out.mono ?_
              rintro e3 w5 ⟨rfl, hb5⟩
              have k0 := keep1 hb5 t0
              have k2 := keep1 hb5 g2
              have HSA5 := Lib.hid ((HSA4.out.below hb5).call hb5.size)
              have HBR5 := Lib.hid (HBR4.out.trans (hb5.mono HBR4.out.size))
              clear g1 g2 t0 t1 hb5 HNM HBR4
              go_wp2_with fail
              refine (containsD_v ds ⟨nm, d.val⟩ _ _ _ _ HSA5.out HP.out).mono ?_
              rintro e3 w6 ⟨rfl, hb6⟩
              have HBR6 := Lib.hid (HBR5.out.trans (hb6.mono HBR5.out.size))
              clear hb6
              go_wp2
              go_roundw
              case rel => exact ⟨k + 1, by omega, by go_num, Lib.hid (fun i hi h => by by_cases e : i = k; subst e; rw [HDD.out]; exact HYES.out; exact hok.out i hi (by omega)), HBR6⟩
              case measure => simp [intOf]; omega
        · obtain rfl : k = ds.length := by omega
          go_wp2
          go_ret
          refine ⟨ret_bool (mReads_all HV.out HV2.out fun d hd => ?_).symm, HB2.out.trans (hbel.out.mono HB2.out.size)⟩
          obtain ⟨i, hi, rfl⟩ := List.mem_iff_getElem.1 hd
          exact hok.out i hi hi
end Go.Proofs.Ytbkfagncoekbkaa
