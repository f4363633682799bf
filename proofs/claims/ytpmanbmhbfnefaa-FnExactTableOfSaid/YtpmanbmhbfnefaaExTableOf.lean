/-
For every enumeration and every list of definitions the law on exact answers of TableOf returns true: the program's TableOf answers as its model does, and leaves its arguments as they were, and its answer owns its memory.
Conditions: none.
-/
import Derived.Test.YtpmanbmhbfnefaaFlagX
import Derived.Deep.DeepCutAuto
import Derived.Test.YtpmanbmhbfnefaaTabS
import Derived.Test.YtpmanbmhbfnefaaTabI
import Derived.Test.YtpmanbmhbfnefaaOpenS
namespace Go.Proofs.Ytpmanbmhbfnefaa.fnExactTableOf
open Go.ChangeShapes Go.WideShapes Go.ChangeAt Go.RowKit
open Go.ChangeMaps (open_string shut_string)
set_option linter.unusedVariables false
set_option maxRecDepth 100000

set_option maxHeartbeats 16000000 in
theorem walkV (Aa : Option Addr) (na ca : Nat) (dsa : List D) (Ab : Option Addr) (nb cb : Nat) (ssb : List D) (ms : List Int) (ok : Bool) (w : World) (hra : SD w w.heap.size Aa na ca dsa) (hrb : SD w w.heap.size Ab nb cb ssb)
    (SPC : Hid (∀ (Aa : Option Addr) (na ca : Nat) (Ab : Option Addr) (nb cb : Nat) (w : World), SD w w.heap.size Aa na ca dsa → na ≤ 1048576 → SD w w.heap.size Ab nb cb ssb → nb ≤ 1048576 → Calls Try.prog 9 #[.agg #[.slice Aa na ca], .slice Ab nb cb] w (IntsB ms ok w)))
    (IMC : Hid (∀ (Aa : Option Addr) (na ca : Nat) (Ab : Option Addr) (nb cb : Nat) (w : World), SD w w.heap.size Aa na ca dsa → na ≤ 1048576 → SD w w.heap.size Ab nb cb ssb → nb ≤ 1048576 → Calls Try.prog 12 #[.agg #[.slice Aa na ca], .slice Ab nb cb] w (IntsB ms ok w))) (OKM : Hid (∀ s ∈ ms, -9223372036854775808 ≤ s ∧ s ≤ 9223372036854775807)) (hml : ms.length ≤ 1000000) :
    Calls Try.prog 3 #[.agg #[.slice Aa na ca], .slice Ab nb cb] w fun e w' => e = .returned (.bool true) ∧ Below w.heap.size w w' := by
  obtain ⟨w0, hw⟩ : ∃ W : World, W = (w.alloc (.cells #[.slice Aa na ca] 24)) := ⟨_, rfl⟩
  have hb : Below w.heap.size w w0 := by rw [hw]; exact ((Below.refl _ _).alloc (by first | exact Nat.le_refl _ | (simp; done) | (simp; omega)) _)
  have hs0 : w.heap.size + 1 ≤ w0.heap.size := by rw [hw]; simp
  have pa_0 : w0.cell? ⟨w.heap.size, 0, none⟩ = some (.slice Aa na ca) := by rw [hw]; simp [go_sem]
  have HRa := Lib.hid hra
  clear hra
  have HRb := Lib.hid hrb
  clear hrb
  have HB_0 := Lib.hid hb
  have HW0 : Hid ((w.alloc (.cells #[.slice Aa na ca] 24)) = w0) := Lib.hid hw.symm
  clear hb hw
  go_enter Try.func3, Try.ntmps3
  go_wp2_with fail
  rw [HW0.out]
  refine (szEnum_any dsa Aa ca na 1048576 _ ((HRa.out.below HB_0.out).call HB_0.out.size) (by omega) (by omega)).mono ?_
  rintro e w1 ⟨ra, rfl, raa, rba, rca, hb⟩
  have hs1 : w0.heap.size ≤ w1.heap.size := hb.size
  have pa_1 := keep1 hb pa_0
  have HB_1 : Hid (Below w.heap.size w w1) := Lib.hid (HB_0.out.trans (hb.mono HB_0.out.size))
  have HQa := Lib.hid rca
  clear hb rca pa_0 HB_0
  by_cases hnega : ra < 0
  · go_wp2
    go_ret
    exact ⟨rfl, HB_1.out⟩
  have HNa : Hid (na ≤ 1048576) := Lib.hid (by have := HQa.out (by omega); omega)
  clear HQa
  go_wp2_with fail
  refine (szDefS_any ssb Ab cb nb ra _ ((HRb.out.below HB_1.out).call HB_1.out.size) (by omega) (by omega)).mono ?_
  rintro e w2 ⟨rb, rfl, rab, rbb, rcb, hb⟩
  have hs2 : w1.heap.size ≤ w2.heap.size := hb.size
  have pa_2 := keep1 hb pa_1
  have HB_2 : Hid (Below w.heap.size w w2) := Lib.hid (HB_1.out.trans (hb.mono HB_1.out.size))
  have HQb := Lib.hid rcb
  clear hb rcb pa_1 HB_1
  by_cases hnegb : rb < 0
  · go_wp2
    go_ret
    exact ⟨rfl, HB_2.out⟩
  have HNb : Hid (nb ≤ 1048576) := Lib.hid (by have := HQb.out (by omega); omega)
  clear HQb
  go_wp2_with fail
  refine (toEnum_any dsa Aa ca na _ ((HRa.out.below HB_2.out).call HB_2.out.size) HNa.out).mono ?_
  rintro e w3 ⟨gTa, rfl, ho, hb⟩
  have hs3 : w2.heap.size ≤ w3.heap.size := hb.size
  have pa_3 := keep1 hb pa_2
  have HB_3 : Hid (Below w.heap.size w w3) := Lib.hid (HB_2.out.trans (hb.mono HB_2.out.size))
  have Ta_3 : Hid (w3.ownsRow w2.heap.size 48 2 (.slice (some ⟨gTa, 0, none⟩) na na) na (flat dsa)) := Lib.hid ho
  have TaL : Hid (∀ q, (Value.slice (some ⟨gTa, 0, none⟩) na na).ownBlock = some q → w2.heap.size ≤ q ∧ q < w3.heap.size) := Lib.hid (fun q hq => ho.lt q hq)
  clear ho hb pa_2 HB_2
  go_wp2_with fail
  refine (toDefS_any ssb Ab cb nb _ ((HRb.out.below HB_3.out).call HB_3.out.size) HNb.out).mono ?_
  rintro e w4 ⟨rfl, ho, hb⟩
  have hs4 : w3.heap.size ≤ w4.heap.size := hb.size
  have pa_4 := keep1 hb pa_3
  have Ta_4 := Lib.hid (own_below Ta_3.out hb)
  have HB_4 : Hid (Below w.heap.size w w4) := Lib.hid (HB_3.out.trans (hb.mono HB_3.out.size))
  have Tb_4 : Hid (w4.ownsRow w3.heap.size 48 2 (.slice (some ⟨w3.heap.size, 0, none⟩) nb nb) nb (flat ssb)) := Lib.hid ho
  have TbL : Hid (∀ q, (Value.slice (some ⟨w3.heap.size, 0, none⟩) nb nb).ownBlock = some q → w3.heap.size ≤ q ∧ q < w4.heap.size) := Lib.hid (fun q hq => ho.lt q hq)
  clear ho hb pa_3 Ta_3 HB_3
  go_wp2_with fail
  refine (SPC.out _ _ _ _ _ _ _ (sd_of_own Ta_4.out HRa.out.ok) HNa.out (sd_of_own Tb_4.out HRb.out.ok) HNb.out).mono ?_
  rintro e w5 ⟨Aw, cw, rfl, ho, hb⟩
  have hs5 : w4.heap.size ≤ w5.heap.size := hb.size
  have pa_5 := keep1 hb pa_4
  have Ta_5 := Lib.hid (own_below Ta_4.out hb)
  have Tb_5 := Lib.hid (own_below Tb_4.out hb)
  have HB_5 : Hid (Below w.heap.size w w5) := Lib.hid (HB_4.out.trans (hb.mono HB_4.out.size))
  have Rw_5 : Hid (w5.ownsRow w4.heap.size 3 1 (.slice Aw ms.length cw) ms.length (flatI ms)) := Lib.hid ho
  have RwL : Hid (∀ q, (Value.slice Aw ms.length cw).ownBlock = some q → w4.heap.size ≤ q ∧ q < w5.heap.size) := Lib.hid (fun q hq => ho.lt q hq)
  clear ho hb pa_4 Ta_4 Tb_4 HB_4
  clear Ta_5
  clear Tb_5
  go_wp2_with fail
  refine (toEnum_any dsa Aa ca na _ ((HRa.out.below HB_5.out).call HB_5.out.size) HNa.out).mono ?_
  rintro e w6 ⟨gXa, rfl, ho, hb⟩
  have hs6 : w5.heap.size ≤ w6.heap.size := hb.size
  have pa_6 := keep1 hb pa_5
  have Rw_6 := Lib.hid (own_below Rw_5.out hb)
  have HB_6 : Hid (Below w.heap.size w w6) := Lib.hid (HB_5.out.trans (hb.mono HB_5.out.size))
  have Xa_6 : Hid (w6.ownsRow w5.heap.size 48 2 (.slice (some ⟨gXa, 0, none⟩) na na) na (flat dsa)) := Lib.hid ho
  have XaL : Hid (∀ q, (Value.slice (some ⟨gXa, 0, none⟩) na na).ownBlock = some q → w5.heap.size ≤ q ∧ q < w6.heap.size) := Lib.hid (fun q hq => ho.lt q hq)
  clear ho hb pa_5 Rw_5 HB_5
  obtain ⟨w7, hw⟩ : ∃ W : World, W = (w6.alloc (.cells #[.slice (some ⟨gXa, 0, none⟩) na na] 32)) := ⟨_, rfl⟩
  have hb : Below w6.heap.size w6 w7 := by rw [hw]; exact (Below.refl _ _).alloc (Nat.le_refl _) _
  have hs7 : w6.heap.size + 1 ≤ w7.heap.size := by rw [hw]; simp
  have pa_7 := keep1 hb pa_6
  have Rw_7 := Lib.hid (own_below Rw_6.out hb)
  have Xa_7 := Lib.hid (own_below Xa_6.out hb)
  have HB_7 : Hid (Below w.heap.size w w7) := Lib.hid (HB_6.out.trans (hb.mono HB_6.out.size))
  have xa_7 : w7.cell? ⟨w6.heap.size, 0, none⟩ = some (.slice (some ⟨gXa, 0, none⟩) na na) := by rw [hw]; simp [go_sem]
  have lf_pa : (w6.alloc (.cells #[.slice (some ⟨gXa, 0, none⟩) na na] 32)).cell? ⟨w.heap.size, 0, none⟩ = some (.slice Aa na ca) := by rw [← hw]; exact pa_7
  have lf_xa : (w6.alloc (.cells #[.slice (some ⟨gXa, 0, none⟩) na na] 32)).cell? ⟨w6.heap.size, 0, none⟩ = some (.slice (some ⟨gXa, 0, none⟩) na na) := by rw [← hw]; exact xa_7
  have HW7 : Hid ((w6.alloc (.cells #[.slice (some ⟨gXa, 0, none⟩) na na] 32)) = w7) := Lib.hid hw.symm
  clear hb hw pa_6 Rw_6 Xa_6 HB_6
  go_wp2_with fail
  rw [HW7.out]
  clear lf_pa lf_xa
  refine (toDefS_any ssb Ab cb nb _ ((HRb.out.below HB_7.out).call HB_7.out.size) HNb.out).mono ?_
  rintro e w8 ⟨rfl, ho, hb⟩
  have hs8 : w7.heap.size ≤ w8.heap.size := hb.size
  have pa_8 := keep1 hb pa_7
  have xa_8 := keep1 hb xa_7
  have Rw_8 := Lib.hid (own_below Rw_7.out hb)
  have Xa_8 := Lib.hid (own_below Xa_7.out hb)
  have HB_8 : Hid (Below w.heap.size w w8) := Lib.hid (HB_7.out.trans (hb.mono HB_7.out.size))
  have Xb_8 : Hid (w8.ownsRow w7.heap.size 48 2 (.slice (some ⟨w7.heap.size, 0, none⟩) nb nb) nb (flat ssb)) := Lib.hid ho
  have XbL : Hid (∀ q, (Value.slice (some ⟨w7.heap.size, 0, none⟩) nb nb).ownBlock = some q → w7.heap.size ≤ q ∧ q < w8.heap.size) := Lib.hid (fun q hq => ho.lt q hq)
  clear ho hb pa_7 xa_7 Rw_7 Xa_7 HB_7
  go_wp2_with fail
  refine (IMC.out _ _ _ _ _ _ _ (sd_of_own Xa_8.out HRa.out.ok) HNa.out (sd_of_own Xb_8.out HRb.out.ok) HNb.out).mono ?_
  rintro e w9 ⟨Ag, cg, rfl, ho, hb⟩
  have hs9 : w8.heap.size ≤ w9.heap.size := hb.size
  have pa_9 := keep1 hb pa_8
  have xa_9 := keep1 hb xa_8
  have Rw_9 := Lib.hid (own_below Rw_8.out hb)
  have Xa_9 := Lib.hid (own_below Xa_8.out hb)
  have Xb_9 := Lib.hid (own_below Xb_8.out hb)
  have HB_9 : Hid (Below w.heap.size w w9) := Lib.hid (HB_8.out.trans (hb.mono HB_8.out.size))
  have Rg_9 : Hid (w9.ownsRow w8.heap.size 3 1 (.slice Ag ms.length cg) ms.length (flatI ms)) := Lib.hid ho
  have RgL : Hid (∀ q, (Value.slice Ag ms.length cg).ownBlock = some q → w8.heap.size ≤ q ∧ q < w9.heap.size) := Lib.hid (fun q hq => ho.lt q hq)
  clear ho hb pa_8 xa_8 Rw_8 Xa_8 Xb_8 HB_8
  go_wp2_with fail
  refine (eqIntS_any ms _ _ _ _ _ _ _ (si_of_own Rg_9.out OKM.out) (si_of_own Rw_9.out OKM.out)).mono ?_
  rintro e w10 ⟨rfl, hb⟩
  have hs10 : w9.heap.size ≤ w10.heap.size := hb.size
  have pa_10 := keep1 hb pa_9
  have xa_10 := keep1 hb xa_9
  have Rw_10 := Lib.hid (own_below Rw_9.out hb)
  have Xa_10 := Lib.hid (own_below Xa_9.out hb)
  have Xb_10 := Lib.hid (own_below Xb_9.out hb)
  have Rg_10 := Lib.hid (own_below Rg_9.out hb)
  have HB_10 : Hid (Below w.heap.size w w10) := Lib.hid (HB_9.out.trans (hb.mono HB_9.out.size))
  clear hb  pa_9 xa_9 Rw_9 Xa_9 Xb_9 Rg_9 HB_9
  go_wp2_with fail
  have hsd : Hid (SD w10 w10.heap.size Aa na ca dsa) := Lib.hid ((HRa.out.below HB_10.out).call HB_10.out.size)
  go_region_held3 (fun w' => w'.cell? ⟨w.heap.size, 0, none⟩ = some (.slice Aa na ca) ∧ w'.cell? ⟨w6.heap.size, 0, none⟩ = some (.slice (some ⟨gXa, 0, none⟩) na na))
    (first
      | go_keep
      | exact ⟨y0, y1⟩ | exact ⟨z0, z1⟩)
    (first
      | (go_at_call 10; refine (toEnum_any dsa Aa ca na _ (by first | exact hsd.out | exact hsd.out.drew | exact hsd.out.drewN _) HNa.out).mono ?_; rintro e w11 ⟨gt, rfl, ho, hb⟩; replace hb : Below w10.heap.size w10 w11 := (by first | exact hb | exact undrew hb); have y0 := keep1 hb pa_10; have y1 := keep1 hb xa_10)
      | (go_at_call 14; refine (eqEnum_any dsa _ _ _ _ _ _ _ (by first | exact sd_of_own (own_below Xa_10.out hb) HRa.out.ok | exact (sd_of_own (own_below Xa_10.out hb) HRa.out.ok).drew) (by first | exact sd_of_own ho HRa.out.ok | exact (sd_of_own ho HRa.out.ok).drew)).mono ?_; rintro e w12 ⟨rfl, hb2⟩; replace hb2 : Below w11.heap.size w11 w12 := (by first | exact hb2 | exact undrew hb2); have z0 := keep1 hb2 y0; have z1 := keep1 hb2 y1))
  have hb3 : Below w10.heap.size w10 w12 := hb.trans (hb2.mono hb.size)
  have hs12 : w10.heap.size ≤ w12.heap.size := hb3.size
  have pa_12 := keep1 hb3 pa_10
  have xa_12 := keep1 hb3 xa_10
  have Rw_12 := Lib.hid (own_below Rw_10.out hb3)
  have Xa_12 := Lib.hid (own_below Xa_10.out hb3)
  have Xb_12 := Lib.hid (own_below Xb_10.out hb3)
  have Rg_12 := Lib.hid (own_below Rg_10.out hb3)
  have HB_12 : Hid (Below w.heap.size w w12) := Lib.hid (HB_10.out.trans (hb3.mono HB_10.out.size))
  clear hb hb2 hb3 ho y0 z0 y1 z1 hsd pa_10 xa_10 Rw_10 Xa_10 Xb_10 Rg_10 HB_10
  go_wp2_with fail
  refine (toDefS_any ssb Ab cb nb _ ((HRb.out.below HB_12.out).call HB_12.out.size) HNb.out).mono ?_
  rintro e w13 ⟨rfl, ho, hb⟩
  have hs13 : w12.heap.size ≤ w13.heap.size := hb.size
  have pa_13 := keep1 hb pa_12
  have xa_13 := keep1 hb xa_12
  have Rw_13 := Lib.hid (own_below Rw_12.out hb)
  have Xa_13 := Lib.hid (own_below Xa_12.out hb)
  have Xb_13 := Lib.hid (own_below Xb_12.out hb)
  have Rg_13 := Lib.hid (own_below Rg_12.out hb)
  have HB_13 : Hid (Below w.heap.size w w13) := Lib.hid (HB_12.out.trans (hb.mono HB_12.out.size))
  have Vb_13 : Hid (w13.ownsRow w12.heap.size 48 2 (.slice (some ⟨w12.heap.size, 0, none⟩) nb nb) nb (flat ssb)) := Lib.hid ho
  have VbL : Hid (∀ q, (Value.slice (some ⟨w12.heap.size, 0, none⟩) nb nb).ownBlock = some q → w12.heap.size ≤ q ∧ q < w13.heap.size) := Lib.hid (fun q hq => ho.lt q hq)
  clear ho hb pa_12 xa_12 Rw_12 Xa_12 Xb_12 Rg_12 HB_12
  go_wp2_with fail
  refine (eqDefS_any ssb _ _ _ _ _ _ _ (sd_of_own Xb_13.out HRb.out.ok) (sd_of_own Vb_13.out HRb.out.ok)).mono ?_
  rintro e w14 ⟨rfl, hb⟩
  have hs14 : w13.heap.size ≤ w14.heap.size := hb.size
  have pa_14 := keep1 hb pa_13
  have xa_14 := keep1 hb xa_13
  have Rw_14 := Lib.hid (own_below Rw_13.out hb)
  have Xa_14 := Lib.hid (own_below Xa_13.out hb)
  have Xb_14 := Lib.hid (own_below Xb_13.out hb)
  have Rg_14 := Lib.hid (own_below Rg_13.out hb)
  have Vb_14 := Lib.hid (own_below Vb_13.out hb)
  have HB_14 : Hid (Below w.heap.size w w14) := Lib.hid (HB_13.out.trans (hb.mono HB_13.out.size))
  clear hb  pa_13 xa_13 Rw_13 Xa_13 Xb_13 Rg_13 Vb_13 HB_13
  clear Vb_14
  go_wp2_with fail
  refine (markEnum_any (1) _ _ _ _ _ _ Xa_14.out (by omega) (by have := HNa.out; have := HNb.out; omega)).mono ?_
  rintro e w15 ⟨rfl, ho, hg⟩
  have hs15 : w14.heap.size ≤ w15.heap.size := hg.size
  have pa_15 := hg.cell pa_14 (by first | exact fun h => XaN.out h.symm | exact fun h => by have := XaL.out _ h.symm; simp only at this; omega)
  have xa_15 := hg.cell xa_14 (by first | exact fun h => XaN.out h.symm | exact fun h => by have := XaL.out _ h.symm; simp only at this; omega)
  have Rw_15 := Lib.hid (Rw_14.out.kept hg (by
    cases h : (Value.slice Aw ms.length cw).ownBlock with
    | none => exact .inl rfl
    | some q => exact .inr (fun e => by have := RwL.out q h; have := XaL.out q e.symm; omega)))
  have Xb_15 := Lib.hid (Xb_14.out.kept hg (by
    cases h : (Value.slice (some ⟨w7.heap.size, 0, none⟩) nb nb).ownBlock with
    | none => exact .inl rfl
    | some q => exact .inr (fun e => by have := XbL.out q h; have := XaL.out q e.symm; omega)))
  have Rg_15 := Lib.hid (Rg_14.out.kept hg (by
    cases h : (Value.slice Ag ms.length cg).ownBlock with
    | none => exact .inl rfl
    | some q => exact .inr (fun e => by have := RgL.out q h; have := XaL.out q e.symm; omega)))
  have HB_15 : Hid (Below w.heap.size w w15) := Lib.hid (HB_14.out.grown hg HB_14.out.size (fun q hq => by have := XaL.out q hq; omega))
  have Xa_15 := Lib.hid ho
  clear ho hg pa_14 xa_14 Rw_14 Xa_14 Xb_14 Rg_14 HB_14
  clear xa_15
  go_wp2_with fail
  refine (markDefS_any (1 + 2 * (na : Int)) _ _ _ _ _ _ Xb_15.out (by omega) (by have := HNa.out; have := HNb.out; omega)).mono ?_
  rintro e w16 ⟨rfl, ho, hg⟩
  have hs16 : w15.heap.size ≤ w16.heap.size := hg.size
  have pa_16 := hg.cell pa_15 (by first | exact fun h => XbN.out h.symm | exact fun h => by have := XbL.out _ h.symm; simp only at this; omega)
  have Rw_16 := Lib.hid (Rw_15.out.kept hg (by
    cases h : (Value.slice Aw ms.length cw).ownBlock with
    | none => exact .inl rfl
    | some q => exact .inr (fun e => by have := RwL.out q h; have := XbL.out q e.symm; omega)))
  have Xa_16 := Lib.hid (Xa_15.out.kept hg (by
    cases h : (Value.slice (some ⟨gXa, 0, none⟩) na na).ownBlock with
    | none => exact .inl rfl
    | some q => exact .inr (fun e => by have := XaL.out q h; have := XbL.out q e.symm; omega)))
  have Rg_16 := Lib.hid (Rg_15.out.kept hg (by
    cases h : (Value.slice Ag ms.length cg).ownBlock with
    | none => exact .inl rfl
    | some q => exact .inr (fun e => by have := RgL.out q h; have := XbL.out q e.symm; omega)))
  have HB_16 : Hid (Below w.heap.size w w16) := Lib.hid (HB_15.out.grown hg HB_15.out.size (fun q hq => by have := XbL.out q hq; omega))
  have Xb_16 := Lib.hid ho
  clear ho hg pa_15 Rw_15 Xa_15 Xb_15 Rg_15 HB_15
  have hkk : ¬ (1 + 2 * (na : Int) + 2 * (nb : Int) < 0) := by omega
  go_wp2_with fail
  refine (eqIntS_any ms _ _ _ _ _ _ _ (si_of_own Rg_16.out OKM.out) (si_of_own Rw_16.out OKM.out)).mono ?_
  rintro e w17 ⟨rfl, hb⟩
  have hs17 : w16.heap.size ≤ w17.heap.size := hb.size
  have pa_17 := keep1 hb pa_16
  have Rw_17 := Lib.hid (own_below Rw_16.out hb)
  have Xa_17 := Lib.hid (own_below Xa_16.out hb)
  have Xb_17 := Lib.hid (own_below Xb_16.out hb)
  have Rg_17 := Lib.hid (own_below Rg_16.out hb)
  have HB_17 : Hid (Below w.heap.size w w17) := Lib.hid (HB_16.out.trans (hb.mono HB_16.out.size))
  clear hb  pa_16 Rw_16 Xa_16 Xb_16 Rg_16 HB_16
  go_wp2_with fail
  refine (markIntS_any 1 _ _ _ _ _ _ Rg_17.out (by omega) (by omega)).mono ?_
  rintro e w18 ⟨rfl, ho, hg⟩
  have hs18 : w17.heap.size ≤ w18.heap.size := hg.size
  have pa_18 := hg.cell pa_17 (by first | exact fun h => RgN.out h.symm | exact fun h => by have := RgL.out _ h.symm; simp only at this; omega)
  have Rw_18 := Lib.hid (Rw_17.out.kept hg (by
    cases h : (Value.slice Aw ms.length cw).ownBlock with
    | none => exact .inl rfl
    | some q => exact .inr (fun e => by have := RwL.out q h; have := RgL.out q e.symm; omega)))
  have Xa_18 := Lib.hid (Xa_17.out.kept hg (by
    cases h : (Value.slice (some ⟨gXa, 0, none⟩) na na).ownBlock with
    | none => exact .inl rfl
    | some q => exact .inr (fun e => by have := XaL.out q h; have := RgL.out q e.symm; omega)))
  have Xb_18 := Lib.hid (Xb_17.out.kept hg (by
    cases h : (Value.slice (some ⟨w7.heap.size, 0, none⟩) nb nb).ownBlock with
    | none => exact .inl rfl
    | some q => exact .inr (fun e => by have := XbL.out q h; have := RgL.out q e.symm; omega)))
  have HB_18 : Hid (Below w.heap.size w w18) := Lib.hid (HB_17.out.grown hg HB_17.out.size (fun q hq => by have := RgL.out q hq; omega))
  have Rg_18 := Lib.hid ho
  clear ho hg pa_17 Rw_17 Xa_17 Xb_17 Rg_17 HB_17
  go_wp2_with fail
  refine (heldIntS_any 1 _ _ _ _ _ Rg_18.out (by omega) (by omega)).mono ?_
  rintro e w19 ⟨rfl, hb⟩
  have hs19 : w18.heap.size ≤ w19.heap.size := hb.size
  have pa_19 := keep1 hb pa_18
  have Rw_19 := Lib.hid (own_below Rw_18.out hb)
  have Xa_19 := Lib.hid (own_below Xa_18.out hb)
  have Xb_19 := Lib.hid (own_below Xb_18.out hb)
  have Rg_19 := Lib.hid (own_below Rg_18.out hb)
  have HB_19 : Hid (Below w.heap.size w w19) := Lib.hid (HB_18.out.trans (hb.mono HB_18.out.size))
  clear hb  pa_18 Rw_18 Xa_18 Xb_18 Rg_18 HB_18
  have hqq : ¬ (1 + (ms.length : Int) < 0) := by omega
  go_wp2_with fail
  refine (toEnum_any dsa Aa ca na _ ((HRa.out.below HB_19.out).call HB_19.out.size) HNa.out).mono ?_
  rintro e w20 ⟨gTa, rfl, ho, hb⟩
  have hs20 : w19.heap.size ≤ w20.heap.size := hb.size
  have pa_20 := keep1 hb pa_19
  have Rw_20 := Lib.hid (own_below Rw_19.out hb)
  have Xa_20 := Lib.hid (own_below Xa_19.out hb)
  have Xb_20 := Lib.hid (own_below Xb_19.out hb)
  have Rg_20 := Lib.hid (own_below Rg_19.out hb)
  have HB_20 : Hid (Below w.heap.size w w20) := Lib.hid (HB_19.out.trans (hb.mono HB_19.out.size))
  have Ta_20 : Hid (w20.ownsRow w19.heap.size 48 2 (.slice (some ⟨gTa, 0, none⟩) na na) na (flat dsa)) := Lib.hid ho
  have TaL : Hid (∀ q, (Value.slice (some ⟨gTa, 0, none⟩) na na).ownBlock = some q → w19.heap.size ≤ q ∧ q < w20.heap.size) := Lib.hid (fun q hq => ho.lt q hq)
  clear ho hb pa_19 Rw_19 Xa_19 Xb_19 Rg_19 HB_19
  go_wp2_with fail
  refine (toDefS_any ssb Ab cb nb _ ((HRb.out.below HB_20.out).call HB_20.out.size) HNb.out).mono ?_
  rintro e w21 ⟨rfl, ho, hb⟩
  have hs21 : w20.heap.size ≤ w21.heap.size := hb.size
  have pa_21 := keep1 hb pa_20
  have Rw_21 := Lib.hid (own_below Rw_20.out hb)
  have Xa_21 := Lib.hid (own_below Xa_20.out hb)
  have Xb_21 := Lib.hid (own_below Xb_20.out hb)
  have Rg_21 := Lib.hid (own_below Rg_20.out hb)
  have Ta_21 := Lib.hid (own_below Ta_20.out hb)
  have HB_21 : Hid (Below w.heap.size w w21) := Lib.hid (HB_20.out.trans (hb.mono HB_20.out.size))
  have Tb_21 : Hid (w21.ownsRow w20.heap.size 48 2 (.slice (some ⟨w20.heap.size, 0, none⟩) nb nb) nb (flat ssb)) := Lib.hid ho
  have TbL : Hid (∀ q, (Value.slice (some ⟨w20.heap.size, 0, none⟩) nb nb).ownBlock = some q → w20.heap.size ≤ q ∧ q < w21.heap.size) := Lib.hid (fun q hq => ho.lt q hq)
  clear ho hb pa_20 Rw_20 Xa_20 Xb_20 Rg_20 Ta_20 HB_20
  go_wp2_with fail
  refine (IMC.out _ _ _ _ _ _ _ (sd_of_own Ta_21.out HRa.out.ok) HNa.out (sd_of_own Tb_21.out HRb.out.ok) HNb.out).mono ?_
  rintro e w22 ⟨Ah, ch, rfl, ho, hb⟩
  have hs22 : w21.heap.size ≤ w22.heap.size := hb.size
  have pa_22 := keep1 hb pa_21
  have Rw_22 := Lib.hid (own_below Rw_21.out hb)
  have Xa_22 := Lib.hid (own_below Xa_21.out hb)
  have Xb_22 := Lib.hid (own_below Xb_21.out hb)
  have Rg_22 := Lib.hid (own_below Rg_21.out hb)
  have Ta_22 := Lib.hid (own_below Ta_21.out hb)
  have Tb_22 := Lib.hid (own_below Tb_21.out hb)
  have HB_22 : Hid (Below w.heap.size w w22) := Lib.hid (HB_21.out.trans (hb.mono HB_21.out.size))
  have Rh_22 : Hid (w22.ownsRow w21.heap.size 3 1 (.slice Ah ms.length ch) ms.length (flatI ms)) := Lib.hid ho
  have RhL : Hid (∀ q, (Value.slice Ah ms.length ch).ownBlock = some q → w21.heap.size ≤ q ∧ q < w22.heap.size) := Lib.hid (fun q hq => ho.lt q hq)
  clear ho hb pa_21 Rw_21 Xa_21 Xb_21 Rg_21 Ta_21 Tb_21 HB_21
  clear Ta_22
  clear Tb_22
  go_wp2_with fail
  refine (eqIntS_any ms _ _ _ _ _ _ _ (si_of_own Rh_22.out OKM.out) (si_of_own Rw_22.out OKM.out)).mono ?_
  rintro e w23 ⟨rfl, hb⟩
  have hs23 : w22.heap.size ≤ w23.heap.size := hb.size
  have pa_23 := keep1 hb pa_22
  have Rw_23 := Lib.hid (own_below Rw_22.out hb)
  have Xa_23 := Lib.hid (own_below Xa_22.out hb)
  have Xb_23 := Lib.hid (own_below Xb_22.out hb)
  have Rg_23 := Lib.hid (own_below Rg_22.out hb)
  have Rh_23 := Lib.hid (own_below Rh_22.out hb)
  have HB_23 : Hid (Below w.heap.size w w23) := Lib.hid (HB_22.out.trans (hb.mono HB_22.out.size))
  clear hb  pa_22 Rw_22 Xa_22 Xb_22 Rg_22 Rh_22 HB_22
  go_wp2_with fail
  refine (heldIntS_any 1 _ _ _ _ _ Rg_23.out (by omega) (by omega)).mono ?_
  rintro e w24 ⟨rfl, hb⟩
  have hs24 : w23.heap.size ≤ w24.heap.size := hb.size
  have pa_24 := keep1 hb pa_23
  have Rw_24 := Lib.hid (own_below Rw_23.out hb)
  have Xa_24 := Lib.hid (own_below Xa_23.out hb)
  have Xb_24 := Lib.hid (own_below Xb_23.out hb)
  have Rg_24 := Lib.hid (own_below Rg_23.out hb)
  have Rh_24 := Lib.hid (own_below Rh_23.out hb)
  have HB_24 : Hid (Below w.heap.size w w24) := Lib.hid (HB_23.out.trans (hb.mono HB_23.out.size))
  clear hb  pa_23 Rw_23 Xa_23 Xb_23 Rg_23 Rh_23 HB_23
  go_wp2
  go_ret
  exact ⟨rfl, HB_24.out⟩

theorem walk (Aa : Option Addr) (na ca : Nat) (dsa : List D) (Ab : Option Addr) (nb cb : Nat) (ssb : List D) (w : World) (hra : SD w w.heap.size Aa na ca dsa) (hrb : SD w w.heap.size Ab nb cb ssb) :
    Calls Try.prog 3 #[.agg #[.slice Aa na ca], .slice Ab nb cb] w fun e w' => e = .returned (.bool true) ∧ Below w.heap.size w w' := by
  have hl := mTab_len dsa ssb
  exact walkV Aa na ca dsa Ab nb cb ssb (mTab dsa ssb) (mTabOk dsa ssb) w hra hrb (Lib.hid fun A n c A2 n2 c2 w h hn h2 hn2 => specTab_any dsa ssb A A2 n c n2 c2 w h hn h2) (Lib.hid fun A n c A2 n2 c2 w h hn h2 hn2 => implTab_any dsa ssb A A2 n c n2 c2 w h h2) (Lib.hid (fun z hz => by have := mTab_rng dsa ssb z hz; omega)) (by omega)

set_option maxRecDepth 100000 in
theorem lifted (os : Os) (started : os.Started) (H : Type) (enc : TypeId × Value → H) :
    ReturnsInHanded {} Try.checked os 3 .any (Rows.fnExactTableOfSpec.pre6 enc Try.prog Try.f3 Rows.fnExactTableOfRow.domain false) (Rows.fnExactTableOfSpec.post enc Try.prog Try.f3 false true false false) := by
  refine returnsInHanded_of_change (C := Try.checked) own started (by kernel_rfl) Try.func3
    (ChangeSpec.witness6 (enc := enc) (C := Try.checked) false ⟨#[], #[.agg #[.slice none 0 0], .slice none 0 0], []⟩ 8 (by kernel_rfl) (by kernel_rfl) (by kernel_rfl) (by kernel_rfl)) ?_
  intro W base args ds gs before hval0 hW hcnd _
  have hval : ∀ (j : Nat) t v, Try.f3.params[j]? = some t → args[j]? = some v → Value.okWide Try.prog W .any base t v := hval0
  have hW' := hW
  obtain ⟨p, q, hA0, hV, rfl, hfz, hnd⟩ := hW
  have hA : DataW.TrodAll enc Try.prog W 0 (fun _ => true) true Try.f3.params.toList args.toList ds p := hA0
  rw [Try.params3] at hA hval
  obtain ⟨v0, vs0, d0, ds0, p0, q0, hargs, rfl, rfl, h0, r0⟩ := trodAll_cons hA
  obtain ⟨v1, vs1, d1, ds1, p1, q1, rfl, rfl, rfl, h1, r1⟩ := trodAll_cons r0
  obtain ⟨rfl, rfl, rfl⟩ := trodAll_nil r1
  obtain rfl : args = #[v0, v1] := by cases args; simp_all
  obtain ⟨rfl, rfl⟩ := trodVars_none hV
  have k0 := h0
  have lt0 : ∀ x ∈ p0, x.block < W.heap.size := by obtain ⟨m, hm⟩ := k0; exact DataW.trod_lt m _ _ _ hm
  obtain ⟨A0, n0, c0, l0, rfl, w0⟩ := open_enum (hval 0 24 v0 rfl rfl) h0
  have k1 := h1
  have lt1 : ∀ x ∈ p1, x.block < W.heap.size := by obtain ⟨m, hm⟩ := k1; exact DataW.trod_lt m _ _ _ hm
  obtain ⟨A1, n1, c1, l1, rfl, w1⟩ := open_defsS (hval 1 22 v1 rfl rfl) h1
  clear hA0 hval0
  refine (walk A0 n0 c0 l0 A1 n1 c1 l1 W w0 w1).mono fun e W' ⟨he, bel⟩ => ?_
  subst he
  exact ⟨_, rfl, _, _, _, [], _, [], hW', trodAll_mk1 (shut_bool Try.underlying4 _), (trodAll_cons_mk (Below.trod laidOut (by kernel_rfl) (of_decide_eq_true (by kernel_rfl)) k0 bel lt0) (trodAll_cons_mk (Below.trod laidOut (by kernel_rfl) (of_decide_eq_true (by kernel_rfl)) k1 bel lt1) trodAll_mk0)), rfl, bel.frame _, fun h => by cases h⟩

theorem over : Rows.fnExactTableOfRow.holds Try.pinned (OpenSpec.ofChange Rows.fnExactTableOfSpec) :=
  OpenClaim.holds_of_wide 3 Try.f3 rfl rfl rfl rfl rfl rfl rfl ⟨rfl, rfl, rfl, rfl, rfl⟩ rfl rfl rfl rfl rfl (by kernel_rfl) Try.func3 (by kernel_rfl)
    (of_decide_eq_true (by kernel_rfl)) (by unfold Func.isWrapper; first | (rw [if_pos (by decide +kernel)]; kernel_rfl) | (rw [if_neg (by decide +kernel)]; exact ⟨rfl, rfl⟩))
    (fun os started H enc _ => lifted os started H enc)

theorem proved : Rows.FnExactTableOfSaid := over
end Go.Proofs.Ytpmanbmhbfnefaa.fnExactTableOf
