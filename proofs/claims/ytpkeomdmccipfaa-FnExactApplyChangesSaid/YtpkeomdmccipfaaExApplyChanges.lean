/-
For every enumeration and all changes the law on exact answers of ApplyChanges returns true: the program's ApplyChanges answers as its model does, leaves its arguments as they were, and its answer owns its memory.
Conditions: none.
-/
import Derived.Test.YtpkeomdmccipfaaOpen
import Derived.Deep.DeepCutAuto
import Derived.Test.YtpkeomdmccipfaaOpenK
import Derived.Test.YtpkeomdmccipfaaChgC
import Derived.Test.YtpkeomdmccipfaaApplyS
import Derived.Test.YtpkeomdmccipfaaApplyI
import Derived.Test.YtpkeomdmccipfaaMarkD
namespace Go.Proofs.Ytpkeomdmccipfaa.fnExactApplyChanges
open Go.ChangeShapes Go.WideShapes Go.ChangeAt Go.RowKit
open Go.ChangeMaps (open_string shut_string)
set_option linter.unusedVariables false
set_option maxRecDepth 100000

set_option maxHeartbeats 16000000 in
theorem walkV (Aa : Option Addr) (na ca : Nat) (dsa : List D) (Ab : Option Addr) (nb cb : Nat) (ksb : List Ch) (ms : List D) (ok : Bool) (w : World) (hra : SD w w.heap.size Aa na ca dsa) (hkb : SK w w.heap.size Ab nb cb ksb)
    (SPC : Hid (∀ (Aa : Option Addr) (na ca : Nat) (Ab : Option Addr) (nb cb : Nat) (w : World), SD w w.heap.size Aa na ca dsa → SK w w.heap.size Ab nb cb ksb → Calls Try.prog 34 #[.agg #[.slice Aa na ca], .slice Ab nb cb] w (EnumR ms ok w)))
    (IMC : Hid (∀ (Aa : Option Addr) (na ca : Nat) (Ab : Option Addr) (nb cb : Nat) (w : World), SD w w.heap.size Aa na ca dsa → SK w w.heap.size Ab nb cb ksb → Calls Try.prog 36 #[.agg #[.slice Aa na ca], .slice Ab nb cb] w (EnumR ms ok w))) (OKM : Hid (∀ d ∈ ms, d.ok)) (hml : ms.length ≤ 1000000) :
    Calls Try.prog 8 #[.agg #[.slice Aa na ca], .slice Ab nb cb] w fun e w' => e = .returned (.bool true) ∧ Below w.heap.size w w' := by
  obtain ⟨w0, hw⟩ : ∃ W : World, W = (w.alloc (.cells #[.slice Aa na ca] 24)) := ⟨_, rfl⟩
  have hb : Below w.heap.size w w0 := by rw [hw]; exact ((Below.refl _ _).alloc (by first | exact Nat.le_refl _ | (simp; done) | (simp; omega)) _)
  have hs0 : w.heap.size + 1 ≤ w0.heap.size := by rw [hw]; simp
  have pa_0 : w0.cell? ⟨w.heap.size, 0, none⟩ = some (.slice Aa na ca) := by rw [hw]; simp [go_sem]
  have HRa := Lib.hid hra
  clear hra
  have HRb := Lib.hid hkb
  clear hkb
  have HB_0 := Lib.hid hb
  have HW0 : Hid ((w.alloc (.cells #[.slice Aa na ca] 24)) = w0) := Lib.hid hw.symm
  clear hb hw
  go_enter Try.func8, Try.ntmps8
  go_wp2_with fail
  rw [HW0.out]
  refine (szEnum_any dsa Aa ca na 1048576 _ ((HRa.out.below HB_0.out).call HB_0.out.size) (by omega) (by omega)).mono ?_
  rintro e w1 ⟨ra, rfl, raa, rba, rca, hb⟩
  have hs1 : w0.heap.size ≤ w1.heap.size := hb.size
  have pa_1 := keep1 hb pa_0
  have HB_1 : Hid (Below w.heap.size w w1) := Lib.hid (HB_0.out.trans (hb.mono HB_0.out.size))
  have HQa := Lib.hid rca
  clear hb rca pa_0 HB_0
  by_cases hnega : ra < 0
  · go_wp2
    go_ret
    exact ⟨rfl, HB_1.out⟩
  have HNa : Hid (na ≤ 1048576) := Lib.hid (by have := HQa.out (by omega); omega)
  clear HQa
  go_wp2_with fail
  refine (szChangeS_any ksb Ab cb nb ra _ ((HRb.out.below HB_1.out).call HB_1.out.size) (by omega) (by omega)).mono ?_
  rintro e w2 ⟨rb, rfl, rab, rbb, rcb, hb⟩
  have hs2 : w1.heap.size ≤ w2.heap.size := hb.size
  have pa_2 := keep1 hb pa_1
  have HB_2 : Hid (Below w.heap.size w w2) := Lib.hid (HB_1.out.trans (hb.mono HB_1.out.size))
  have HQb := Lib.hid rcb
  clear hb rcb pa_1 HB_1
  by_cases hnegb : rb < 0
  · go_wp2
    go_ret
    exact ⟨rfl, HB_2.out⟩
  have HNb : Hid (nb ≤ 1048576) := Lib.hid (by have := HQb.out (by omega); omega)
  clear HQb
  go_wp2_with fail
  refine (toEnum_any dsa Aa ca na _ ((HRa.out.below HB_2.out).call HB_2.out.size) HNa.out).mono ?_
  rintro e w3 ⟨gTa, rfl, ho, hb⟩
  have hs3 : w2.heap.size ≤ w3.heap.size := hb.size
  have pa_3 := keep1 hb pa_2
  have HB_3 : Hid (Below w.heap.size w w3) := Lib.hid (HB_2.out.trans (hb.mono HB_2.out.size))
  have Ta_3 : Hid (w3.ownsRow w2.heap.size 35 2 (.slice (some ⟨gTa, 0, none⟩) na na) na (flat dsa)) := Lib.hid ho
  have TaL : Hid (∀ q, (Value.slice (some ⟨gTa, 0, none⟩) na na).ownBlock = some q → w2.heap.size ≤ q ∧ q < w3.heap.size) := Lib.hid (fun q hq => ho.lt q hq)
  clear ho hb pa_2 HB_2
  go_wp2_with fail
  refine (toChangeS_any ksb Ab cb nb _ ((HRb.out.below HB_3.out).call HB_3.out.size) HNb.out).mono ?_
  rintro e w4 ⟨gTb, rfl, ho, hb⟩
  have hs4 : w3.heap.size ≤ w4.heap.size := hb.size
  have pa_4 := keep1 hb pa_3
  have Ta_4 := Lib.hid (own_below Ta_3.out hb)
  have HB_4 : Hid (Below w.heap.size w w4) := Lib.hid (HB_3.out.trans (hb.mono HB_3.out.size))
  have Tb_4 : Hid (w4.ownsRow w3.heap.size 74 4 (.slice (some ⟨gTb, 0, none⟩) nb nb) nb (ksb.flatMap encK)) := Lib.hid ho
  have TbL : Hid (∀ q, (Value.slice (some ⟨gTb, 0, none⟩) nb nb).ownBlock = some q → w3.heap.size ≤ q ∧ q < w4.heap.size) := Lib.hid (fun q hq => ho.lt q hq)
  clear ho hb pa_3 Ta_3 HB_3
  go_wp2_with fail
  refine (SPC.out _ _ _ _ _ _ _ (sd_of_own Ta_4.out HRa.out.ok) (sk_of_own Tb_4.out HRb.out.ok)).mono ?_
  rintro e w5 ⟨Aw, cw, rfl, ho, hb⟩
  have hs5 : w4.heap.size ≤ w5.heap.size := hb.size
  have pa_5 := keep1 hb pa_4
  have Ta_5 := Lib.hid (own_below Ta_4.out hb)
  have Tb_5 := Lib.hid (own_below Tb_4.out hb)
  have HB_5 : Hid (Below w.heap.size w w5) := Lib.hid (HB_4.out.trans (hb.mono HB_4.out.size))
  have Rw_5 : Hid (w5.ownsRow w4.heap.size 35 2 (.slice Aw ms.length cw) ms.length (flat ms)) := Lib.hid ho
  have RwL : Hid (∀ q, (Value.slice Aw ms.length cw).ownBlock = some q → w4.heap.size ≤ q ∧ q < w5.heap.size) := Lib.hid (fun q hq => ho.lt q hq)
  clear ho
  clear hb pa_4 Ta_4 Tb_4 HB_4
  obtain ⟨w6, hw⟩ : ∃ W : World, W = (w5.alloc (.cells #[.slice Aw ms.length cw] 31)) := ⟨_, rfl⟩
  have hb : Below w5.heap.size w5 w6 := by rw [hw]; exact (Below.refl _ _).alloc (Nat.le_refl _) _
  have hs6 : w5.heap.size + 1 ≤ w6.heap.size := by rw [hw]; simp
  have pa_6 := keep1 hb pa_5
  have Ta_6 := Lib.hid (own_below Ta_5.out hb)
  have Tb_6 := Lib.hid (own_below Tb_5.out hb)
  have Rw_6 := Lib.hid (own_below Rw_5.out hb)
  have HB_6 : Hid (Below w.heap.size w w6) := Lib.hid (HB_5.out.trans (hb.mono HB_5.out.size))
  have cw_6 : w6.cell? ⟨w5.heap.size, 0, none⟩ = some (.slice Aw ms.length cw) := by rw [hw]; simp [go_sem]
  have lf_pa : (w5.alloc (.cells #[.slice Aw ms.length cw] 31)).cell? ⟨w.heap.size, 0, none⟩ = some (.slice Aa na ca) := by rw [← hw]; exact pa_6
  have lf_cw : (w5.alloc (.cells #[.slice Aw ms.length cw] 31)).cell? ⟨w5.heap.size, 0, none⟩ = some (.slice Aw ms.length cw) := by rw [← hw]; exact cw_6
  have HW6 : Hid ((w5.alloc (.cells #[.slice Aw ms.length cw] 31)) = w6) := Lib.hid hw.symm
  clear hb hw pa_5 Ta_5 Tb_5 Rw_5 HB_5
  clear Ta_6
  clear Tb_6
  go_wp2_with fail
  rw [HW6.out]
  clear lf_pa lf_cw
  refine (toEnum_any dsa Aa ca na _ ((HRa.out.below HB_6.out).call HB_6.out.size) HNa.out).mono ?_
  rintro e w7 ⟨gXa, rfl, ho, hb⟩
  have hs7 : w6.heap.size ≤ w7.heap.size := hb.size
  have pa_7 := keep1 hb pa_6
  have cw_7 := keep1 hb cw_6
  have Rw_7 := Lib.hid (own_below Rw_6.out hb)
  have HB_7 : Hid (Below w.heap.size w w7) := Lib.hid (HB_6.out.trans (hb.mono HB_6.out.size))
  have Xa_7 : Hid (w7.ownsRow w6.heap.size 35 2 (.slice (some ⟨gXa, 0, none⟩) na na) na (flat dsa)) := Lib.hid ho
  have XaL : Hid (∀ q, (Value.slice (some ⟨gXa, 0, none⟩) na na).ownBlock = some q → w6.heap.size ≤ q ∧ q < w7.heap.size) := Lib.hid (fun q hq => ho.lt q hq)
  clear ho hb pa_6 cw_6 Rw_6 HB_6
  obtain ⟨w8, hw⟩ : ∃ W : World, W = (w7.alloc (.cells #[.slice (some ⟨gXa, 0, none⟩) na na] 31)) := ⟨_, rfl⟩
  have hb : Below w7.heap.size w7 w8 := by rw [hw]; exact (Below.refl _ _).alloc (Nat.le_refl _) _
  have hs8 : w7.heap.size + 1 ≤ w8.heap.size := by rw [hw]; simp
  have pa_8 := keep1 hb pa_7
  have cw_8 := keep1 hb cw_7
  have Rw_8 := Lib.hid (own_below Rw_7.out hb)
  have Xa_8 := Lib.hid (own_below Xa_7.out hb)
  have HB_8 : Hid (Below w.heap.size w w8) := Lib.hid (HB_7.out.trans (hb.mono HB_7.out.size))
  have xa_8 : w8.cell? ⟨w7.heap.size, 0, none⟩ = some (.slice (some ⟨gXa, 0, none⟩) na na) := by rw [hw]; simp [go_sem]
  have lf_pa : (w7.alloc (.cells #[.slice (some ⟨gXa, 0, none⟩) na na] 31)).cell? ⟨w.heap.size, 0, none⟩ = some (.slice Aa na ca) := by rw [← hw]; exact pa_8
  have lf_cw : (w7.alloc (.cells #[.slice (some ⟨gXa, 0, none⟩) na na] 31)).cell? ⟨w5.heap.size, 0, none⟩ = some (.slice Aw ms.length cw) := by rw [← hw]; exact cw_8
  have lf_xa : (w7.alloc (.cells #[.slice (some ⟨gXa, 0, none⟩) na na] 31)).cell? ⟨w7.heap.size, 0, none⟩ = some (.slice (some ⟨gXa, 0, none⟩) na na) := by rw [← hw]; exact xa_8
  have HW8 : Hid ((w7.alloc (.cells #[.slice (some ⟨gXa, 0, none⟩) na na] 31)) = w8) := Lib.hid hw.symm
  clear hb hw pa_7 cw_7 Rw_7 Xa_7 HB_7
  go_wp2_with fail
  rw [HW8.out]
  clear lf_pa lf_cw lf_xa
  refine (toChangeS_any ksb Ab cb nb _ ((HRb.out.below HB_8.out).call HB_8.out.size) HNb.out).mono ?_
  rintro e w9 ⟨gXb, rfl, ho, hb⟩
  have hs9 : w8.heap.size ≤ w9.heap.size := hb.size
  have pa_9 := keep1 hb pa_8
  have cw_9 := keep1 hb cw_8
  have xa_9 := keep1 hb xa_8
  have Rw_9 := Lib.hid (own_below Rw_8.out hb)
  have Xa_9 := Lib.hid (own_below Xa_8.out hb)
  have HB_9 : Hid (Below w.heap.size w w9) := Lib.hid (HB_8.out.trans (hb.mono HB_8.out.size))
  have Xb_9 : Hid (w9.ownsRow w8.heap.size 74 4 (.slice (some ⟨gXb, 0, none⟩) nb nb) nb (ksb.flatMap encK)) := Lib.hid ho
  have XbL : Hid (∀ q, (Value.slice (some ⟨gXb, 0, none⟩) nb nb).ownBlock = some q → w8.heap.size ≤ q ∧ q < w9.heap.size) := Lib.hid (fun q hq => ho.lt q hq)
  clear ho hb pa_8 cw_8 xa_8 Rw_8 Xa_8 HB_8
  go_wp2_with fail
  refine (IMC.out _ _ _ _ _ _ _ (sd_of_own Xa_9.out HRa.out.ok) (sk_of_own Xb_9.out HRb.out.ok)).mono ?_
  rintro e w10 ⟨Ag, cg, rfl, ho, hb⟩
  have hs10 : w9.heap.size ≤ w10.heap.size := hb.size
  have pa_10 := keep1 hb pa_9
  have cw_10 := keep1 hb cw_9
  have xa_10 := keep1 hb xa_9
  have Rw_10 := Lib.hid (own_below Rw_9.out hb)
  have Xa_10 := Lib.hid (own_below Xa_9.out hb)
  have Xb_10 := Lib.hid (own_below Xb_9.out hb)
  have HB_10 : Hid (Below w.heap.size w w10) := Lib.hid (HB_9.out.trans (hb.mono HB_9.out.size))
  have Rg_10 : Hid (w10.ownsRow w9.heap.size 35 2 (.slice Ag ms.length cg) ms.length (flat ms)) := Lib.hid ho
  have RgL : Hid (∀ q, (Value.slice Ag ms.length cg).ownBlock = some q → w9.heap.size ≤ q ∧ q < w10.heap.size) := Lib.hid (fun q hq => ho.lt q hq)
  clear ho
  clear hb pa_9 cw_9 xa_9 Rw_9 Xa_9 Xb_9 HB_9
  obtain ⟨w11, hw⟩ : ∃ W : World, W = (w10.alloc (.cells #[.slice Ag ms.length cg] 31)) := ⟨_, rfl⟩
  have hb : Below w10.heap.size w10 w11 := by rw [hw]; exact (Below.refl _ _).alloc (Nat.le_refl _) _
  have hs11 : w10.heap.size + 1 ≤ w11.heap.size := by rw [hw]; simp
  have pa_11 := keep1 hb pa_10
  have cw_11 := keep1 hb cw_10
  have xa_11 := keep1 hb xa_10
  have Rw_11 := Lib.hid (own_below Rw_10.out hb)
  have Xa_11 := Lib.hid (own_below Xa_10.out hb)
  have Xb_11 := Lib.hid (own_below Xb_10.out hb)
  have Rg_11 := Lib.hid (own_below Rg_10.out hb)
  have HB_11 : Hid (Below w.heap.size w w11) := Lib.hid (HB_10.out.trans (hb.mono HB_10.out.size))
  have cg_11 : w11.cell? ⟨w10.heap.size, 0, none⟩ = some (.slice Ag ms.length cg) := by rw [hw]; simp [go_sem]
  have lf_pa : (w10.alloc (.cells #[.slice Ag ms.length cg] 31)).cell? ⟨w.heap.size, 0, none⟩ = some (.slice Aa na ca) := by rw [← hw]; exact pa_11
  have lf_cw : (w10.alloc (.cells #[.slice Ag ms.length cg] 31)).cell? ⟨w5.heap.size, 0, none⟩ = some (.slice Aw ms.length cw) := by rw [← hw]; exact cw_11
  have lf_xa : (w10.alloc (.cells #[.slice Ag ms.length cg] 31)).cell? ⟨w7.heap.size, 0, none⟩ = some (.slice (some ⟨gXa, 0, none⟩) na na) := by rw [← hw]; exact xa_11
  have lf_cg : (w10.alloc (.cells #[.slice Ag ms.length cg] 31)).cell? ⟨w10.heap.size, 0, none⟩ = some (.slice Ag ms.length cg) := by rw [← hw]; exact cg_11
  have HW11 : Hid ((w10.alloc (.cells #[.slice Ag ms.length cg] 31)) = w11) := Lib.hid hw.symm
  clear hb hw pa_10 cw_10 xa_10 Rw_10 Xa_10 Xb_10 Rg_10 HB_10
  go_wp2_with fail
  rw [HW11.out]
  clear lf_pa lf_cw lf_xa lf_cg
  refine (eqEnum_any ms _ _ _ _ _ _ _ (sd_of_own Rg_11.out OKM.out) (sd_of_own Rw_11.out OKM.out)).mono ?_
  rintro e w12 ⟨rfl, hb⟩
  have hs12 : w11.heap.size ≤ w12.heap.size := hb.size
  have pa_12 := keep1 hb pa_11
  have cw_12 := keep1 hb cw_11
  have xa_12 := keep1 hb xa_11
  have cg_12 := keep1 hb cg_11
  have Rw_12 := Lib.hid (own_below Rw_11.out hb)
  have Xa_12 := Lib.hid (own_below Xa_11.out hb)
  have Xb_12 := Lib.hid (own_below Xb_11.out hb)
  have Rg_12 := Lib.hid (own_below Rg_11.out hb)
  have HB_12 : Hid (Below w.heap.size w w12) := Lib.hid (HB_11.out.trans (hb.mono HB_11.out.size))
  clear hb  pa_11 cw_11 xa_11 cg_11 Rw_11 Xa_11 Xb_11 Rg_11 HB_11
  go_wp2_with fail
  have hsd : Hid (SD w12 w12.heap.size Aa na ca dsa) := Lib.hid ((HRa.out.below HB_12.out).call HB_12.out.size)
  go_region_held3 (fun w' => w'.cell? ⟨w.heap.size, 0, none⟩ = some (.slice Aa na ca) ∧ w'.cell? ⟨w7.heap.size, 0, none⟩ = some (.slice (some ⟨gXa, 0, none⟩) na na))
    (first
      | go_keep
      | exact ⟨y1, y2⟩ | exact ⟨z1, z2⟩)
    (first
      | (go_at_call 16; refine (toEnum_any dsa Aa ca na _ (by first | exact hsd.out | exact hsd.out.drew | exact hsd.out.drewN _) HNa.out).mono ?_; rintro e w13 ⟨gt, rfl, ho, hb⟩; replace hb : Below w12.heap.size w12 w13 := (by first | exact hb | exact undrew hb); have y1 := keep1 hb pa_12; have y2 := keep1 hb xa_12)
      | (go_at_call 19; refine (eqEnum_any dsa _ _ _ _ _ _ _ (by first | exact sd_of_own (own_below Xa_12.out hb) HRa.out.ok | exact (sd_of_own (own_below Xa_12.out hb) HRa.out.ok).drew) (by first | exact sd_of_own ho HRa.out.ok | exact (sd_of_own ho HRa.out.ok).drew)).mono ?_; rintro e w14 ⟨rfl, hb2⟩; replace hb2 : Below w13.heap.size w13 w14 := (by first | exact hb2 | exact undrew hb2); have z1 := keep1 hb2 y1; have z2 := keep1 hb2 y2))
  have hb3 : Below w12.heap.size w12 w14 := hb.trans (hb2.mono hb.size)
  have hs14 : w12.heap.size ≤ w14.heap.size := hb3.size
  have pa_14 := keep1 hb3 pa_12
  have cw_14 := keep1 hb3 cw_12
  have xa_14 := keep1 hb3 xa_12
  have cg_14 := keep1 hb3 cg_12
  have Rw_14 := Lib.hid (own_below Rw_12.out hb3)
  have Xa_14 := Lib.hid (own_below Xa_12.out hb3)
  have Xb_14 := Lib.hid (own_below Xb_12.out hb3)
  have Rg_14 := Lib.hid (own_below Rg_12.out hb3)
  have HB_14 : Hid (Below w.heap.size w w14) := Lib.hid (HB_12.out.trans (hb3.mono HB_12.out.size))
  clear hb hb2 hb3 ho y1 y2 z1 z2 hsd pa_12 cw_12 xa_12 cg_12 Rw_12 Xa_12 Xb_12 Rg_12 HB_12
  go_wp2_with fail
  refine (toChangeS_any ksb Ab cb nb _ ((HRb.out.below HB_14.out).call HB_14.out.size) HNb.out).mono ?_
  rintro e w15 ⟨gTb, rfl, ho, hb⟩
  have hs15 : w14.heap.size ≤ w15.heap.size := hb.size
  have pa_15 := keep1 hb pa_14
  have cw_15 := keep1 hb cw_14
  have xa_15 := keep1 hb xa_14
  have cg_15 := keep1 hb cg_14
  have Rw_15 := Lib.hid (own_below Rw_14.out hb)
  have Xa_15 := Lib.hid (own_below Xa_14.out hb)
  have Xb_15 := Lib.hid (own_below Xb_14.out hb)
  have Rg_15 := Lib.hid (own_below Rg_14.out hb)
  have HB_15 : Hid (Below w.heap.size w w15) := Lib.hid (HB_14.out.trans (hb.mono HB_14.out.size))
  have Tb_15 : Hid (w15.ownsRow w14.heap.size 74 4 (.slice (some ⟨gTb, 0, none⟩) nb nb) nb (ksb.flatMap encK)) := Lib.hid ho
  have TbL : Hid (∀ q, (Value.slice (some ⟨gTb, 0, none⟩) nb nb).ownBlock = some q → w14.heap.size ≤ q ∧ q < w15.heap.size) := Lib.hid (fun q hq => ho.lt q hq)
  clear ho hb pa_14 cw_14 xa_14 cg_14 Rw_14 Xa_14 Xb_14 Rg_14 HB_14
  go_wp2_with fail
  refine (eqChangeS_any ksb _ _ _ _ _ _ _ (sk_of_own Xb_15.out HRb.out.ok) (sk_of_own Tb_15.out HRb.out.ok)).mono ?_
  rintro e w16 ⟨rfl, hb⟩
  have hs16 : w15.heap.size ≤ w16.heap.size := hb.size
  have pa_16 := keep1 hb pa_15
  have cw_16 := keep1 hb cw_15
  have xa_16 := keep1 hb xa_15
  have cg_16 := keep1 hb cg_15
  have Rw_16 := Lib.hid (own_below Rw_15.out hb)
  have Xa_16 := Lib.hid (own_below Xa_15.out hb)
  have Xb_16 := Lib.hid (own_below Xb_15.out hb)
  have Rg_16 := Lib.hid (own_below Rg_15.out hb)
  have Tb_16 := Lib.hid (own_below Tb_15.out hb)
  have HB_16 : Hid (Below w.heap.size w w16) := Lib.hid (HB_15.out.trans (hb.mono HB_15.out.size))
  clear hb  pa_15 cw_15 xa_15 cg_15 Rw_15 Xa_15 Xb_15 Rg_15 Tb_15 HB_15
  clear Tb_16
  go_wp2_with fail
  refine (markEnum_any (1) _ _ _ _ _ _ Xa_16.out (by omega) (by have := HNa.out; have := HNb.out; omega)).mono ?_
  rintro e w17 ⟨rfl, ho, hg⟩
  have hs17 : w16.heap.size ≤ w17.heap.size := hg.size
  have pa_17 := hg.cell pa_16 (by first | exact fun h => XaN.out h.symm | exact fun h => by have := XaL.out _ h.symm; simp only at this; omega)
  have cw_17 := hg.cell cw_16 (by first | exact fun h => XaN.out h.symm | exact fun h => by have := XaL.out _ h.symm; simp only at this; omega)
  have xa_17 := hg.cell xa_16 (by first | exact fun h => XaN.out h.symm | exact fun h => by have := XaL.out _ h.symm; simp only at this; omega)
  have cg_17 := hg.cell cg_16 (by first | exact fun h => XaN.out h.symm | exact fun h => by have := XaL.out _ h.symm; simp only at this; omega)
  have Rw_17 := Lib.hid (Rw_16.out.kept hg (by
    cases h : (Value.slice Aw ms.length cw).ownBlock with
    | none => exact .inl rfl
    | some q => exact .inr (fun e => by have := RwL.out q h; have := XaL.out q e.symm; omega)))
  have Xb_17 := Lib.hid (Xb_16.out.kept hg (by
    cases h : (Value.slice (some ⟨gXb, 0, none⟩) nb nb).ownBlock with
    | none => exact .inl rfl
    | some q => exact .inr (fun e => by have := XbL.out q h; have := XaL.out q e.symm; omega)))
  have Rg_17 := Lib.hid (Rg_16.out.kept hg (by
    cases h : (Value.slice Ag ms.length cg).ownBlock with
    | none => exact .inl rfl
    | some q => exact .inr (fun e => by have := RgL.out q h; have := XaL.out q e.symm; omega)))
  have HB_17 : Hid (Below w.heap.size w w17) := Lib.hid (HB_16.out.grown hg HB_16.out.size (fun q hq => by have := XaL.out q hq; omega))
  have Xa_17 := Lib.hid ho
  clear ho hg pa_16 cw_16 xa_16 cg_16 Rw_16 Xa_16 Xb_16 Rg_16 HB_16
  clear xa_17
  go_wp2_with fail
  refine (markChangeS_any (1 + 2 * (na : Int)) _ _ _ _ _ _ Xb_17.out (by omega) (by have := HNa.out; have := HNb.out; omega)).mono ?_
  rintro e w18 ⟨rfl, ho, hg⟩
  have hs18 : w17.heap.size ≤ w18.heap.size := hg.size
  have pa_18 := hg.cell pa_17 (by first | exact fun h => XbN.out h.symm | exact fun h => by have := XbL.out _ h.symm; simp only at this; omega)
  have cw_18 := hg.cell cw_17 (by first | exact fun h => XbN.out h.symm | exact fun h => by have := XbL.out _ h.symm; simp only at this; omega)
  have cg_18 := hg.cell cg_17 (by first | exact fun h => XbN.out h.symm | exact fun h => by have := XbL.out _ h.symm; simp only at this; omega)
  have Rw_18 := Lib.hid (Rw_17.out.kept hg (by
    cases h : (Value.slice Aw ms.length cw).ownBlock with
    | none => exact .inl rfl
    | some q => exact .inr (fun e => by have := RwL.out q h; have := XbL.out q e.symm; omega)))
  have Xa_18 := Lib.hid (Xa_17.out.kept hg (by
    cases h : (Value.slice (some ⟨gXa, 0, none⟩) na na).ownBlock with
    | none => exact .inl rfl
    | some q => exact .inr (fun e => by have := XaL.out q h; have := XbL.out q e.symm; omega)))
  have Rg_18 := Lib.hid (Rg_17.out.kept hg (by
    cases h : (Value.slice Ag ms.length cg).ownBlock with
    | none => exact .inl rfl
    | some q => exact .inr (fun e => by have := RgL.out q h; have := XbL.out q e.symm; omega)))
  have HB_18 : Hid (Below w.heap.size w w18) := Lib.hid (HB_17.out.grown hg HB_17.out.size (fun q hq => by have := XbL.out q hq; omega))
  have Xb_18 := Lib.hid ho
  clear ho hg pa_17 cw_17 cg_17 Rw_17 Xa_17 Xb_17 Rg_17 HB_17
  have hkk : ¬ (1 + 2 * (na : Int) + 4 * (nb : Int) < 0) := by omega
  go_wp2_with fail
  refine (eqEnum_any ms _ _ _ _ _ _ _ (sd_of_own Rg_18.out OKM.out) (sd_of_own Rw_18.out OKM.out)).mono ?_
  rintro e w19 ⟨rfl, hb⟩
  have hs19 : w18.heap.size ≤ w19.heap.size := hb.size
  have pa_19 := keep1 hb pa_18
  have cw_19 := keep1 hb cw_18
  have cg_19 := keep1 hb cg_18
  have Rw_19 := Lib.hid (own_below Rw_18.out hb)
  have Xa_19 := Lib.hid (own_below Xa_18.out hb)
  have Xb_19 := Lib.hid (own_below Xb_18.out hb)
  have Rg_19 := Lib.hid (own_below Rg_18.out hb)
  have HB_19 : Hid (Below w.heap.size w w19) := Lib.hid (HB_18.out.trans (hb.mono HB_18.out.size))
  clear hb  pa_18 cw_18 cg_18 Rw_18 Xa_18 Xb_18 Rg_18 HB_18
  go_wp2_with fail
  refine (markEnum_any 1 _ _ _ _ _ _ Rg_19.out (by omega) (by omega)).mono ?_
  rintro e w20 ⟨rfl, ho, hg⟩
  have hs20 : w19.heap.size ≤ w20.heap.size := hg.size
  have pa_20 := hg.cell pa_19 (by first | exact fun h => RgN.out h.symm | exact fun h => by have := RgL.out _ h.symm; simp only at this; omega)
  have cw_20 := hg.cell cw_19 (by first | exact fun h => RgN.out h.symm | exact fun h => by have := RgL.out _ h.symm; simp only at this; omega)
  have cg_20 := hg.cell cg_19 (by first | exact fun h => RgN.out h.symm | exact fun h => by have := RgL.out _ h.symm; simp only at this; omega)
  have Rw_20 := Lib.hid (Rw_19.out.kept hg (by
    cases h : (Value.slice Aw ms.length cw).ownBlock with
    | none => exact .inl rfl
    | some q => exact .inr (fun e => by have := RwL.out q h; have := RgL.out q e.symm; omega)))
  have Xa_20 := Lib.hid (Xa_19.out.kept hg (by
    cases h : (Value.slice (some ⟨gXa, 0, none⟩) na na).ownBlock with
    | none => exact .inl rfl
    | some q => exact .inr (fun e => by have := XaL.out q h; have := RgL.out q e.symm; omega)))
  have Xb_20 := Lib.hid (Xb_19.out.kept hg (by
    cases h : (Value.slice (some ⟨gXb, 0, none⟩) nb nb).ownBlock with
    | none => exact .inl rfl
    | some q => exact .inr (fun e => by have := XbL.out q h; have := RgL.out q e.symm; omega)))
  have HB_20 : Hid (Below w.heap.size w w20) := Lib.hid (HB_19.out.grown hg HB_19.out.size (fun q hq => by have := RgL.out q hq; omega))
  have Rg_20 := Lib.hid ho
  clear ho hg pa_19 cw_19 cg_19 Rw_19 Xa_19 Xb_19 Rg_19 HB_19
  go_wp2_with fail
  refine (heldEnum_any 1 _ _ _ _ _ Rg_20.out (by omega) (by omega)).mono ?_
  rintro e w21 ⟨rfl, hb⟩
  have hs21 : w20.heap.size ≤ w21.heap.size := hb.size
  have pa_21 := keep1 hb pa_20
  have cw_21 := keep1 hb cw_20
  have cg_21 := keep1 hb cg_20
  have Rw_21 := Lib.hid (own_below Rw_20.out hb)
  have Xa_21 := Lib.hid (own_below Xa_20.out hb)
  have Xb_21 := Lib.hid (own_below Xb_20.out hb)
  have Rg_21 := Lib.hid (own_below Rg_20.out hb)
  have HB_21 : Hid (Below w.heap.size w w21) := Lib.hid (HB_20.out.trans (hb.mono HB_20.out.size))
  clear hb  pa_20 cw_20 cg_20 Rw_20 Xa_20 Xb_20 Rg_20 HB_20
  have hqq : ¬ (1 + 2 * (ms.length : Int) < 0) := by omega
  go_wp2_with fail
  refine (toEnum_any dsa Aa ca na _ ((HRa.out.below HB_21.out).call HB_21.out.size) HNa.out).mono ?_
  rintro e w22 ⟨gTa, rfl, ho, hb⟩
  have hs22 : w21.heap.size ≤ w22.heap.size := hb.size
  have pa_22 := keep1 hb pa_21
  have cw_22 := keep1 hb cw_21
  have cg_22 := keep1 hb cg_21
  have Rw_22 := Lib.hid (own_below Rw_21.out hb)
  have Xa_22 := Lib.hid (own_below Xa_21.out hb)
  have Xb_22 := Lib.hid (own_below Xb_21.out hb)
  have Rg_22 := Lib.hid (own_below Rg_21.out hb)
  have HB_22 : Hid (Below w.heap.size w w22) := Lib.hid (HB_21.out.trans (hb.mono HB_21.out.size))
  have Ta_22 : Hid (w22.ownsRow w21.heap.size 35 2 (.slice (some ⟨gTa, 0, none⟩) na na) na (flat dsa)) := Lib.hid ho
  have TaL : Hid (∀ q, (Value.slice (some ⟨gTa, 0, none⟩) na na).ownBlock = some q → w21.heap.size ≤ q ∧ q < w22.heap.size) := Lib.hid (fun q hq => ho.lt q hq)
  clear ho hb pa_21 cw_21 cg_21 Rw_21 Xa_21 Xb_21 Rg_21 HB_21
  go_wp2_with fail
  refine (toChangeS_any ksb Ab cb nb _ ((HRb.out.below HB_22.out).call HB_22.out.size) HNb.out).mono ?_
  rintro e w23 ⟨gTb, rfl, ho, hb⟩
  have hs23 : w22.heap.size ≤ w23.heap.size := hb.size
  have pa_23 := keep1 hb pa_22
  have cw_23 := keep1 hb cw_22
  have cg_23 := keep1 hb cg_22
  have Rw_23 := Lib.hid (own_below Rw_22.out hb)
  have Xa_23 := Lib.hid (own_below Xa_22.out hb)
  have Xb_23 := Lib.hid (own_below Xb_22.out hb)
  have Rg_23 := Lib.hid (own_below Rg_22.out hb)
  have Ta_23 := Lib.hid (own_below Ta_22.out hb)
  have HB_23 : Hid (Below w.heap.size w w23) := Lib.hid (HB_22.out.trans (hb.mono HB_22.out.size))
  have Tb_23 : Hid (w23.ownsRow w22.heap.size 74 4 (.slice (some ⟨gTb, 0, none⟩) nb nb) nb (ksb.flatMap encK)) := Lib.hid ho
  have TbL : Hid (∀ q, (Value.slice (some ⟨gTb, 0, none⟩) nb nb).ownBlock = some q → w22.heap.size ≤ q ∧ q < w23.heap.size) := Lib.hid (fun q hq => ho.lt q hq)
  clear ho hb pa_22 cw_22 cg_22 Rw_22 Xa_22 Xb_22 Rg_22 Ta_22 HB_22
  go_wp2_with fail
  refine (IMC.out _ _ _ _ _ _ _ (sd_of_own Ta_23.out HRa.out.ok) (sk_of_own Tb_23.out HRb.out.ok)).mono ?_
  rintro e w24 ⟨Ah, ch, rfl, ho, hb⟩
  have hs24 : w23.heap.size ≤ w24.heap.size := hb.size
  have pa_24 := keep1 hb pa_23
  have cw_24 := keep1 hb cw_23
  have cg_24 := keep1 hb cg_23
  have Rw_24 := Lib.hid (own_below Rw_23.out hb)
  have Xa_24 := Lib.hid (own_below Xa_23.out hb)
  have Xb_24 := Lib.hid (own_below Xb_23.out hb)
  have Rg_24 := Lib.hid (own_below Rg_23.out hb)
  have Ta_24 := Lib.hid (own_below Ta_23.out hb)
  have Tb_24 := Lib.hid (own_below Tb_23.out hb)
  have HB_24 : Hid (Below w.heap.size w w24) := Lib.hid (HB_23.out.trans (hb.mono HB_23.out.size))
  have Rh_24 : Hid (w24.ownsRow w23.heap.size 35 2 (.slice Ah ms.length ch) ms.length (flat ms)) := Lib.hid ho
  have RhL : Hid (∀ q, (Value.slice Ah ms.length ch).ownBlock = some q → w23.heap.size ≤ q ∧ q < w24.heap.size) := Lib.hid (fun q hq => ho.lt q hq)
  clear ho
  clear hb pa_23 cw_23 cg_23 Rw_23 Xa_23 Xb_23 Rg_23 Ta_23 Tb_23 HB_23
  obtain ⟨w25, hw⟩ : ∃ W : World, W = (w24.alloc (.cells #[.slice Ah ms.length ch] 31)) := ⟨_, rfl⟩
  have hb : Below w24.heap.size w24 w25 := by rw [hw]; exact (Below.refl _ _).alloc (Nat.le_refl _) _
  have hs25 : w24.heap.size + 1 ≤ w25.heap.size := by rw [hw]; simp
  have pa_25 := keep1 hb pa_24
  have cw_25 := keep1 hb cw_24
  have cg_25 := keep1 hb cg_24
  have Rw_25 := Lib.hid (own_below Rw_24.out hb)
  have Xa_25 := Lib.hid (own_below Xa_24.out hb)
  have Xb_25 := Lib.hid (own_below Xb_24.out hb)
  have Rg_25 := Lib.hid (own_below Rg_24.out hb)
  have Ta_25 := Lib.hid (own_below Ta_24.out hb)
  have Tb_25 := Lib.hid (own_below Tb_24.out hb)
  have Rh_25 := Lib.hid (own_below Rh_24.out hb)
  have HB_25 : Hid (Below w.heap.size w w25) := Lib.hid (HB_24.out.trans (hb.mono HB_24.out.size))
  have ch_25 : w25.cell? ⟨w24.heap.size, 0, none⟩ = some (.slice Ah ms.length ch) := by rw [hw]; simp [go_sem]
  have lf_pa : (w24.alloc (.cells #[.slice Ah ms.length ch] 31)).cell? ⟨w.heap.size, 0, none⟩ = some (.slice Aa na ca) := by rw [← hw]; exact pa_25
  have lf_cw : (w24.alloc (.cells #[.slice Ah ms.length ch] 31)).cell? ⟨w5.heap.size, 0, none⟩ = some (.slice Aw ms.length cw) := by rw [← hw]; exact cw_25
  have lf_cg : (w24.alloc (.cells #[.slice Ah ms.length ch] 31)).cell? ⟨w10.heap.size, 0, none⟩ = some (.slice Ag ms.length cg) := by rw [← hw]; exact cg_25
  have lf_ch : (w24.alloc (.cells #[.slice Ah ms.length ch] 31)).cell? ⟨w24.heap.size, 0, none⟩ = some (.slice Ah ms.length ch) := by rw [← hw]; exact ch_25
  have HW25 : Hid ((w24.alloc (.cells #[.slice Ah ms.length ch] 31)) = w25) := Lib.hid hw.symm
  clear hb hw pa_24 cw_24 cg_24 Rw_24 Xa_24 Xb_24 Rg_24 Ta_24 Tb_24 Rh_24 HB_24
  clear Ta_25
  clear Tb_25
  go_wp2_with fail
  rw [HW25.out]
  clear lf_pa lf_cw lf_cg lf_ch
  refine (eqEnum_any ms _ _ _ _ _ _ _ (sd_of_own Rh_25.out OKM.out) (sd_of_own Rw_25.out OKM.out)).mono ?_
  rintro e w26 ⟨rfl, hb⟩
  have hs26 : w25.heap.size ≤ w26.heap.size := hb.size
  have pa_26 := keep1 hb pa_25
  have cw_26 := keep1 hb cw_25
  have cg_26 := keep1 hb cg_25
  have ch_26 := keep1 hb ch_25
  have Rw_26 := Lib.hid (own_below Rw_25.out hb)
  have Xa_26 := Lib.hid (own_below Xa_25.out hb)
  have Xb_26 := Lib.hid (own_below Xb_25.out hb)
  have Rg_26 := Lib.hid (own_below Rg_25.out hb)
  have Rh_26 := Lib.hid (own_below Rh_25.out hb)
  have HB_26 : Hid (Below w.heap.size w w26) := Lib.hid (HB_25.out.trans (hb.mono HB_25.out.size))
  clear hb  pa_25 cw_25 cg_25 ch_25 Rw_25 Xa_25 Xb_25 Rg_25 Rh_25 HB_25
  go_wp2_with fail
  refine (heldEnum_any 1 _ _ _ _ _ Rg_26.out (by omega) (by omega)).mono ?_
  rintro e w27 ⟨rfl, hb⟩
  have hs27 : w26.heap.size ≤ w27.heap.size := hb.size
  have pa_27 := keep1 hb pa_26
  have cw_27 := keep1 hb cw_26
  have cg_27 := keep1 hb cg_26
  have ch_27 := keep1 hb ch_26
  have Rw_27 := Lib.hid (own_below Rw_26.out hb)
  have Xa_27 := Lib.hid (own_below Xa_26.out hb)
  have Xb_27 := Lib.hid (own_below Xb_26.out hb)
  have Rg_27 := Lib.hid (own_below Rg_26.out hb)
  have Rh_27 := Lib.hid (own_below Rh_26.out hb)
  have HB_27 : Hid (Below w.heap.size w w27) := Lib.hid (HB_26.out.trans (hb.mono HB_26.out.size))
  clear hb  pa_26 cw_26 cg_26 ch_26 Rw_26 Xa_26 Xb_26 Rg_26 Rh_26 HB_26
  go_wp2
  go_ret
  exact ⟨rfl, HB_27.out⟩

theorem walk (Aa : Option Addr) (na ca : Nat) (dsa : List D) (Ab : Option Addr) (nb cb : Nat) (ksb : List Ch) (w : World) (ha : SD w w.heap.size Aa na ca dsa) (hb : SK w w.heap.size Ab nb cb ksb) :
    Calls Try.prog 8 #[.agg #[.slice Aa na ca], .slice Ab nb cb] w fun e w' => e = .returned (.bool true) ∧ Below w.heap.size w w' := by
  have hok := mApply_ok ha.ok hb.ok
  have hl := hok.1
  exact walkV Aa na ca dsa Ab nb cb ksb ((mApply dsa ksb).getD []) (mApply dsa ksb).isSome w ha hb (Lib.hid fun A n c B m e w h1 h2 => specApply_any dsa ksb A B n c m e w h1 h2) (Lib.hid fun A n c B m e w h1 h2 => implApply_any dsa ksb A B n c m e w h1 h2)
    (Lib.hid hok.2) (by omega)

set_option maxRecDepth 100000 in
theorem lifted (os : Os) (started : os.Started) (H : Type) (enc : TypeId × Value → H) :
    ReturnsInHanded {} Try.checked os 8 .any (Rows.fnExactApplyChangesSpec.pre6 enc Try.prog Try.f8 Rows.fnExactApplyChangesRow.domain false) (Rows.fnExactApplyChangesSpec.post enc Try.prog Try.f8 false true false false) := by
  refine returnsInHanded_of_change (C := Try.checked) own started (by kernel_rfl) Try.func8
    (ChangeSpec.witness6 (enc := enc) (C := Try.checked) false ⟨#[], #[.agg #[.slice none 0 0], .slice none 0 0], []⟩ 8 (by kernel_rfl) (by kernel_rfl) (by kernel_rfl) (by kernel_rfl)) ?_
  intro W base args ds gs before hval0 hW hcnd _
  have hval : ∀ (j : Nat) t v, Try.f8.params[j]? = some t → args[j]? = some v → Value.okWide Try.prog W .any base t v := hval0
  have hW' := hW
  obtain ⟨p, q, hA0, hV, rfl, hfz, hnd⟩ := hW
  have hA : DataW.TrodAll enc Try.prog W 0 (fun _ => true) true Try.f8.params.toList args.toList ds p := hA0
  rw [Try.params8] at hA hval
  obtain ⟨v0, vs0, d0, ds0, p0, q0, hargs, rfl, rfl, h0, r0⟩ := trodAll_cons hA
  obtain ⟨v1, vs1, d1, ds1, p1, q1, rfl, rfl, rfl, h1, r1⟩ := trodAll_cons r0
  obtain ⟨rfl, rfl, rfl⟩ := trodAll_nil r1
  obtain rfl : args = #[v0, v1] := by cases args; simp_all
  obtain ⟨rfl, rfl⟩ := trodVars_none hV
  have k0 := h0
  have lt0 : ∀ x ∈ p0, x.block < W.heap.size := by obtain ⟨m, hm⟩ := k0; exact DataW.trod_lt m _ _ _ hm
  obtain ⟨A0, n0, c0, l0, rfl, w0⟩ := open_enum (hval 0 24 v0 rfl rfl) h0
  have k1 := h1
  have lt1 : ∀ x ∈ p1, x.block < W.heap.size := by obtain ⟨m, hm⟩ := k1; exact DataW.trod_lt m _ _ _ hm
  obtain ⟨A1, n1, c1, l1, rfl, w1⟩ := open_changes (hval 1 50 v1 rfl rfl) h1
  clear hA0 hval0
  refine (walk A0 n0 c0 l0 A1 n1 c1 l1 W w0 w1).mono fun e W' ⟨he, bel⟩ => ?_
  subst he
  exact ⟨_, rfl, _, _, _, [], _, [], hW', trodAll_mk1 (shut_bool Try.underlying4 _), (trodAll_cons_mk (Below.trod laidOut (by kernel_rfl) (of_decide_eq_true (by kernel_rfl)) k0 bel lt0) (trodAll_cons_mk (Below.trod laidOut (by kernel_rfl) (of_decide_eq_true (by kernel_rfl)) k1 bel lt1) trodAll_mk0)), rfl, bel.frame _, fun h => by cases h⟩

theorem over : Rows.fnExactApplyChangesRow.holds Try.pinned (OpenSpec.ofChange Rows.fnExactApplyChangesSpec) :=
  OpenClaim.holds_of_wide 8 Try.f8 rfl rfl rfl rfl rfl rfl rfl ⟨rfl, rfl, rfl, rfl, rfl⟩ rfl rfl rfl rfl rfl (by kernel_rfl) Try.func8 (by kernel_rfl)
    (of_decide_eq_true (by kernel_rfl)) (by unfold Func.isWrapper; first | (rw [if_pos (by decide +kernel)]; kernel_rfl) | (rw [if_neg (by decide +kernel)]; exact ⟨rfl, rfl⟩))
    (fun os started H enc _ => lifted os started H enc)

theorem proved : Rows.FnExactApplyChangesSaid := over
end Go.Proofs.Ytpkeomdmccipfaa.fnExactApplyChanges
