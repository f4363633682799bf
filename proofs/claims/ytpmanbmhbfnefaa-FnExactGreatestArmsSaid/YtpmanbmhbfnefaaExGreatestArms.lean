/-
For every class of flags and every list of numbers the law on exact answers of GreatestArms returns true: the program's GreatestArms answers as its model does, leaves its arguments as they were, and its answer owns its memory.
Conditions: none.
-/
import Derived.Test.YtpmanbmhbfnefaaFlagX
import Derived.Deep.DeepCutAuto
import Derived.Test.YtpmanbmhbfnefaaGrX
import Derived.Test.YtpmanbmhbfnefaaGrH
import Derived.Test.YtpmanbmhbfnefaaArmsC
import Derived.Test.YtpmanbmhbfnefaaOpenS
namespace Go.Proofs.Ytpmanbmhbfnefaa.fnExactGreatestArms
open Go.ChangeShapes Go.WideShapes Go.ChangeAt Go.RowKit
open Go.ChangeMaps (open_string shut_string)
set_option linter.unusedVariables false
set_option maxRecDepth 100000

set_option maxHeartbeats 16000000 in
theorem walkV (Aa : Option Addr) (na ca : Nat) (dsa : List D) (ba : Int) (Ab : Option Addr) (nb cb : Nat) (ssb : List Int) (ms : List Ar) (w : World) (hra : SD w w.heap.size Aa na ca dsa) (hrb : SI w w.heap.size Ab nb cb ssb)
    (SPC : Hid (∀ (Aa : Option Addr) (na ca : Nat) (Ab : Option Addr) (nb cb : Nat) (w : World), SD w w.heap.size Aa na ca dsa → na ≤ 1048576 → SI w w.heap.size Ab nb cb ssb → nb ≤ 1048576 → Calls Try.prog 25 #[.agg #[.slice Aa na ca, .int .i64 ba], .slice Ab nb cb] w (ArmsP ms w)))
    (IMC : Hid (∀ (Aa : Option Addr) (na ca : Nat) (Ab : Option Addr) (nb cb : Nat) (w : World), SD w w.heap.size Aa na ca dsa → na ≤ 1048576 → SI w w.heap.size Ab nb cb ssb → nb ≤ 1048576 → Calls Try.prog 28 #[.agg #[.slice Aa na ca, .int .i64 ba], .slice Ab nb cb] w (ArmsP ms w))) (OKM : Hid (∀ d ∈ ms, d.ok)) (hml : ms.length ≤ 1000000) :
    Calls Try.prog 5 #[.agg #[.slice Aa na ca, .int .i64 ba], .slice Ab nb cb] w fun e w' => e = .returned (.bool true) ∧ Below w.heap.size w w' := by
  obtain ⟨w0, hw⟩ : ∃ W : World, W = (w.alloc (.cells #[.slice Aa na ca, .int .i64 ba] 53)) := ⟨_, rfl⟩
  have hb : Below w.heap.size w w0 := by rw [hw]; exact ((Below.refl _ _).alloc (by first | exact Nat.le_refl _ | (simp; done) | (simp; omega)) _)
  have hs0 : w.heap.size + 1 ≤ w0.heap.size := by rw [hw]; simp
  have pa_0 : w0.cell? ⟨w.heap.size, 0, none⟩ = some (.slice Aa na ca) := by rw [hw]; simp [go_sem]
  have qa_0 : w0.cell? ⟨w.heap.size, 1, none⟩ = some (.int .i64 ba) := by rw [hw]; simp [go_sem]
  have HRa := Lib.hid hra
  clear hra
  have HRb := Lib.hid hrb
  clear hrb
  have HB_0 := Lib.hid hb
  have HW0 : Hid ((w.alloc (.cells #[.slice Aa na ca, .int .i64 ba] 53)) = w0) := Lib.hid hw.symm
  clear hb hw
  by_cases hbigb : 1048576 < (nb : Int)
  · go_enter Try.func5, Try.ntmps5
    go_wp2
    go_ret
    rw [HW0.out]
    exact ⟨rfl, HB_0.out⟩
  have HNb : Hid (nb ≤ 1048576) := Lib.hid (by omega)
  go_enter Try.func5, Try.ntmps5
  go_wp2_with fail
  rw [HW0.out]
  refine (szFlag_any dsa ba Aa ca na 1048576 _ ((HRa.out.below HB_0.out).call HB_0.out.size) (by omega) (by omega)).mono ?_
  rintro e w1 ⟨ra, rfl, raa, rba, rca, hb⟩
  have hs1 : w0.heap.size ≤ w1.heap.size := hb.size
  have pa_1 := keep1 hb pa_0
  have qa_1 := keep1 hb qa_0
  have HB_1 : Hid (Below w.heap.size w w1) := Lib.hid (HB_0.out.trans (hb.mono HB_0.out.size))
  have HQa := Lib.hid rca
  clear hb rca pa_0 qa_0 HB_0
  by_cases hnega : ra < 0
  · go_wp2
    go_ret
    exact ⟨rfl, HB_1.out⟩
  have HNa : Hid (na ≤ 1048576) := Lib.hid (by have := HQa.out (by omega); omega)
  clear HQa
  go_wp2_with fail
  refine (toFlag_any dsa ba Aa ca na _ ((HRa.out.below HB_1.out).call HB_1.out.size) HNa.out).mono ?_
  rintro e w2 ⟨gTa, rfl, ho, hb⟩
  have hs2 : w1.heap.size ≤ w2.heap.size := hb.size
  have pa_2 := keep1 hb pa_1
  have qa_2 := keep1 hb qa_1
  have HB_2 : Hid (Below w.heap.size w w2) := Lib.hid (HB_1.out.trans (hb.mono HB_1.out.size))
  have Ta_2 : Hid (w2.ownsRow w1.heap.size 48 2 (.slice (some ⟨gTa, 0, none⟩) na na) na (flat dsa)) := Lib.hid ho
  have TaL : Hid (∀ q, (Value.slice (some ⟨gTa, 0, none⟩) na na).ownBlock = some q → w1.heap.size ≤ q ∧ q < w2.heap.size) := Lib.hid (fun q hq => ho.lt q hq)
  clear ho hb pa_1 qa_1 HB_1
  go_wp2_with fail
  refine (toIntS_any ssb Ab cb nb _ ((HRb.out.below HB_2.out).call HB_2.out.size) HNb.out).mono ?_
  rintro e w3 ⟨rfl, ho, hb⟩
  have hs3 : w2.heap.size ≤ w3.heap.size := hb.size
  have pa_3 := keep1 hb pa_2
  have qa_3 := keep1 hb qa_2
  have Ta_3 := Lib.hid (own_below Ta_2.out hb)
  have HB_3 : Hid (Below w.heap.size w w3) := Lib.hid (HB_2.out.trans (hb.mono HB_2.out.size))
  have Tb_3 : Hid (w3.ownsRow w2.heap.size 3 1 (.slice (some ⟨w2.heap.size, 0, none⟩) nb nb) nb (flatI ssb)) := Lib.hid ho
  have TbL : Hid (∀ q, (Value.slice (some ⟨w2.heap.size, 0, none⟩) nb nb).ownBlock = some q → w2.heap.size ≤ q ∧ q < w3.heap.size) := Lib.hid (fun q hq => ho.lt q hq)
  clear ho hb pa_2 qa_2 Ta_2 HB_2
  go_wp2_with fail
  refine (SPC.out _ _ _ _ _ _ _ (sd_of_own Ta_3.out HRa.out.ok) HNa.out (si_of_own Tb_3.out HRb.out.ok) HNb.out).mono ?_
  rintro e w4 ⟨Aw, cw, rfl, ho, hb⟩
  have hs4 : w3.heap.size ≤ w4.heap.size := hb.size
  have pa_4 := keep1 hb pa_3
  have qa_4 := keep1 hb qa_3
  have Ta_4 := Lib.hid (own_below Ta_3.out hb)
  have Tb_4 := Lib.hid (own_below Tb_3.out hb)
  have HB_4 : Hid (Below w.heap.size w w4) := Lib.hid (HB_3.out.trans (hb.mono HB_3.out.size))
  have Rw_4 : Hid (w4.ownsRow w3.heap.size 72 2 (.slice Aw ms.length cw) ms.length (flatA ms)) := Lib.hid ho
  have RwL : Hid (∀ q, (Value.slice Aw ms.length cw).ownBlock = some q → w3.heap.size ≤ q ∧ q < w4.heap.size) := Lib.hid (fun q hq => ho.lt q hq)
  clear ho hb pa_3 qa_3 Ta_3 Tb_3 HB_3
  clear Ta_4
  clear Tb_4
  go_wp2_with fail
  refine (toFlag_any dsa ba Aa ca na _ ((HRa.out.below HB_4.out).call HB_4.out.size) HNa.out).mono ?_
  rintro e w5 ⟨gXa, rfl, ho, hb⟩
  have hs5 : w4.heap.size ≤ w5.heap.size := hb.size
  have pa_5 := keep1 hb pa_4
  have qa_5 := keep1 hb qa_4
  have Rw_5 := Lib.hid (own_below Rw_4.out hb)
  have HB_5 : Hid (Below w.heap.size w w5) := Lib.hid (HB_4.out.trans (hb.mono HB_4.out.size))
  have Xa_5 : Hid (w5.ownsRow w4.heap.size 48 2 (.slice (some ⟨gXa, 0, none⟩) na na) na (flat dsa)) := Lib.hid ho
  have XaL : Hid (∀ q, (Value.slice (some ⟨gXa, 0, none⟩) na na).ownBlock = some q → w4.heap.size ≤ q ∧ q < w5.heap.size) := Lib.hid (fun q hq => ho.lt q hq)
  clear ho hb pa_4 qa_4 Rw_4 HB_4
  obtain ⟨w6, hw⟩ : ∃ W : World, W = (w5.alloc (.cells #[.slice (some ⟨gXa, 0, none⟩) na na, .int .i64 ba] 58)) := ⟨_, rfl⟩
  have hb : Below w5.heap.size w5 w6 := by rw [hw]; exact (Below.refl _ _).alloc (Nat.le_refl _) _
  have hs6 : w5.heap.size + 1 ≤ w6.heap.size := by rw [hw]; simp
  have pa_6 := keep1 hb pa_5
  have qa_6 := keep1 hb qa_5
  have Rw_6 := Lib.hid (own_below Rw_5.out hb)
  have Xa_6 := Lib.hid (own_below Xa_5.out hb)
  have HB_6 : Hid (Below w.heap.size w w6) := Lib.hid (HB_5.out.trans (hb.mono HB_5.out.size))
  have xa_6 : w6.cell? ⟨w5.heap.size, 0, none⟩ = some (.slice (some ⟨gXa, 0, none⟩) na na) := by rw [hw]; simp [go_sem]
  have xab_6 : w6.cell? ⟨w5.heap.size, 1, none⟩ = some (.int .i64 ba) := by rw [hw]; simp [go_sem]
  have lf_pa : (w5.alloc (.cells #[.slice (some ⟨gXa, 0, none⟩) na na, .int .i64 ba] 58)).cell? ⟨w.heap.size, 0, none⟩ = some (.slice Aa na ca) := by rw [← hw]; exact pa_6
  have lf_qa : (w5.alloc (.cells #[.slice (some ⟨gXa, 0, none⟩) na na, .int .i64 ba] 58)).cell? ⟨w.heap.size, 1, none⟩ = some (.int .i64 ba) := by rw [← hw]; exact qa_6
  have lf_xa : (w5.alloc (.cells #[.slice (some ⟨gXa, 0, none⟩) na na, .int .i64 ba] 58)).cell? ⟨w5.heap.size, 0, none⟩ = some (.slice (some ⟨gXa, 0, none⟩) na na) := by rw [← hw]; exact xa_6
  have lf_xab : (w5.alloc (.cells #[.slice (some ⟨gXa, 0, none⟩) na na, .int .i64 ba] 58)).cell? ⟨w5.heap.size, 1, none⟩ = some (.int .i64 ba) := by rw [← hw]; exact xab_6
  have HW6 : Hid ((w5.alloc (.cells #[.slice (some ⟨gXa, 0, none⟩) na na, .int .i64 ba] 58)) = w6) := Lib.hid hw.symm
  clear hb hw pa_5 qa_5 Rw_5 Xa_5 HB_5
  go_wp2_with fail
  rw [HW6.out]
  clear lf_pa lf_qa lf_xa lf_xab
  refine (toIntS_any ssb Ab cb nb _ ((HRb.out.below HB_6.out).call HB_6.out.size) HNb.out).mono ?_
  rintro e w7 ⟨rfl, ho, hb⟩
  have hs7 : w6.heap.size ≤ w7.heap.size := hb.size
  have pa_7 := keep1 hb pa_6
  have qa_7 := keep1 hb qa_6
  have xa_7 := keep1 hb xa_6
  have xab_7 := keep1 hb xab_6
  have Rw_7 := Lib.hid (own_below Rw_6.out hb)
  have Xa_7 := Lib.hid (own_below Xa_6.out hb)
  have HB_7 : Hid (Below w.heap.size w w7) := Lib.hid (HB_6.out.trans (hb.mono HB_6.out.size))
  have Xb_7 : Hid (w7.ownsRow w6.heap.size 3 1 (.slice (some ⟨w6.heap.size, 0, none⟩) nb nb) nb (flatI ssb)) := Lib.hid ho
  have XbL : Hid (∀ q, (Value.slice (some ⟨w6.heap.size, 0, none⟩) nb nb).ownBlock = some q → w6.heap.size ≤ q ∧ q < w7.heap.size) := Lib.hid (fun q hq => ho.lt q hq)
  clear ho hb pa_6 qa_6 xa_6 xab_6 Rw_6 Xa_6 HB_6
  go_wp2_with fail
  refine (IMC.out _ _ _ _ _ _ _ (sd_of_own Xa_7.out HRa.out.ok) HNa.out (si_of_own Xb_7.out HRb.out.ok) HNb.out).mono ?_
  rintro e w8 ⟨Ag, cg, rfl, ho, hb⟩
  have hs8 : w7.heap.size ≤ w8.heap.size := hb.size
  have pa_8 := keep1 hb pa_7
  have qa_8 := keep1 hb qa_7
  have xa_8 := keep1 hb xa_7
  have xab_8 := keep1 hb xab_7
  have Rw_8 := Lib.hid (own_below Rw_7.out hb)
  have Xa_8 := Lib.hid (own_below Xa_7.out hb)
  have Xb_8 := Lib.hid (own_below Xb_7.out hb)
  have HB_8 : Hid (Below w.heap.size w w8) := Lib.hid (HB_7.out.trans (hb.mono HB_7.out.size))
  have Rg_8 : Hid (w8.ownsRow w7.heap.size 72 2 (.slice Ag ms.length cg) ms.length (flatA ms)) := Lib.hid ho
  have RgL : Hid (∀ q, (Value.slice Ag ms.length cg).ownBlock = some q → w7.heap.size ≤ q ∧ q < w8.heap.size) := Lib.hid (fun q hq => ho.lt q hq)
  clear ho hb pa_7 qa_7 xa_7 xab_7 Rw_7 Xa_7 Xb_7 HB_7
  go_wp2_with fail
  refine (eqArmS_any ms _ _ _ _ _ _ _ (sa_of_own Rg_8.out OKM.out) (sa_of_own Rw_8.out OKM.out)).mono ?_
  rintro e w9 ⟨rfl, hb⟩
  have hs9 : w8.heap.size ≤ w9.heap.size := hb.size
  have pa_9 := keep1 hb pa_8
  have qa_9 := keep1 hb qa_8
  have xa_9 := keep1 hb xa_8
  have xab_9 := keep1 hb xab_8
  have Rw_9 := Lib.hid (own_below Rw_8.out hb)
  have Xa_9 := Lib.hid (own_below Xa_8.out hb)
  have Xb_9 := Lib.hid (own_below Xb_8.out hb)
  have Rg_9 := Lib.hid (own_below Rg_8.out hb)
  have HB_9 : Hid (Below w.heap.size w w9) := Lib.hid (HB_8.out.trans (hb.mono HB_8.out.size))
  clear hb  pa_8 qa_8 xa_8 xab_8 Rw_8 Xa_8 Xb_8 Rg_8 HB_8
  go_wp2_with fail
  have hsd : Hid (SD w9 w9.heap.size Aa na ca dsa) := Lib.hid ((HRa.out.below HB_9.out).call HB_9.out.size)
  go_region_held3 (fun w' => w'.cell? ⟨w.heap.size, 0, none⟩ = some (.slice Aa na ca) ∧ w'.cell? ⟨w.heap.size, 1, none⟩ = some (.int .i64 ba) ∧ w'.cell? ⟨w5.heap.size, 0, none⟩ = some (.slice (some ⟨gXa, 0, none⟩) na na) ∧ w'.cell? ⟨w5.heap.size, 1, none⟩ = some (.int .i64 ba))
    (first
      | go_keep
      | exact ⟨y0, y1, y2, y3⟩ | exact ⟨z0, z1, z2, z3⟩)
    (first
      | (go_at_call 26; refine (toFlag_any dsa ba Aa ca na _ (by first | exact hsd.out | exact hsd.out.drew | exact hsd.out.drewN _) HNa.out).mono ?_; rintro e w10 ⟨gt, rfl, ho, hb⟩; replace hb : Below w9.heap.size w9 w10 := (by first | exact hb | exact undrew hb); have y0 := keep1 hb pa_9; have y1 := keep1 hb qa_9; have y2 := keep1 hb xa_9; have y3 := keep1 hb xab_9)
      | (go_at_call 30; refine (eqFlag_any dsa ba _ _ _ _ _ _ _ (by first | exact sd_of_own (own_below Xa_9.out hb) HRa.out.ok | exact (sd_of_own (own_below Xa_9.out hb) HRa.out.ok).drew) (by first | exact sd_of_own ho HRa.out.ok | exact (sd_of_own ho HRa.out.ok).drew)).mono ?_; rintro e w11 ⟨rfl, hb2⟩; replace hb2 : Below w10.heap.size w10 w11 := (by first | exact hb2 | exact undrew hb2); have z0 := keep1 hb2 y0; have z1 := keep1 hb2 y1; have z2 := keep1 hb2 y2; have z3 := keep1 hb2 y3))
  have hb3 : Below w9.heap.size w9 w11 := hb.trans (hb2.mono hb.size)
  have hs11 : w9.heap.size ≤ w11.heap.size := hb3.size
  have pa_11 := keep1 hb3 pa_9
  have qa_11 := keep1 hb3 qa_9
  have xa_11 := keep1 hb3 xa_9
  have xab_11 := keep1 hb3 xab_9
  have Rw_11 := Lib.hid (own_below Rw_9.out hb3)
  have Xa_11 := Lib.hid (own_below Xa_9.out hb3)
  have Xb_11 := Lib.hid (own_below Xb_9.out hb3)
  have Rg_11 := Lib.hid (own_below Rg_9.out hb3)
  have HB_11 : Hid (Below w.heap.size w w11) := Lib.hid (HB_9.out.trans (hb3.mono HB_9.out.size))
  clear hb hb2 hb3 ho y0 z0 y1 z1 y2 z2 y3 z3 hsd pa_9 qa_9 xa_9 xab_9 Rw_9 Xa_9 Xb_9 Rg_9 HB_9
  go_wp2_with fail
  refine (toIntS_any ssb Ab cb nb _ ((HRb.out.below HB_11.out).call HB_11.out.size) HNb.out).mono ?_
  rintro e w12 ⟨rfl, ho, hb⟩
  have hs12 : w11.heap.size ≤ w12.heap.size := hb.size
  have pa_12 := keep1 hb pa_11
  have qa_12 := keep1 hb qa_11
  have xa_12 := keep1 hb xa_11
  have xab_12 := keep1 hb xab_11
  have Rw_12 := Lib.hid (own_below Rw_11.out hb)
  have Xa_12 := Lib.hid (own_below Xa_11.out hb)
  have Xb_12 := Lib.hid (own_below Xb_11.out hb)
  have Rg_12 := Lib.hid (own_below Rg_11.out hb)
  have HB_12 : Hid (Below w.heap.size w w12) := Lib.hid (HB_11.out.trans (hb.mono HB_11.out.size))
  have Vb_12 : Hid (w12.ownsRow w11.heap.size 3 1 (.slice (some ⟨w11.heap.size, 0, none⟩) nb nb) nb (flatI ssb)) := Lib.hid ho
  have VbL : Hid (∀ q, (Value.slice (some ⟨w11.heap.size, 0, none⟩) nb nb).ownBlock = some q → w11.heap.size ≤ q ∧ q < w12.heap.size) := Lib.hid (fun q hq => ho.lt q hq)
  clear ho hb pa_11 qa_11 xa_11 xab_11 Rw_11 Xa_11 Xb_11 Rg_11 HB_11
  go_wp2_with fail
  refine (eqIntS_any ssb _ _ _ _ _ _ _ (si_of_own Xb_12.out HRb.out.ok) (si_of_own Vb_12.out HRb.out.ok)).mono ?_
  rintro e w13 ⟨rfl, hb⟩
  have hs13 : w12.heap.size ≤ w13.heap.size := hb.size
  have pa_13 := keep1 hb pa_12
  have qa_13 := keep1 hb qa_12
  have xa_13 := keep1 hb xa_12
  have xab_13 := keep1 hb xab_12
  have Rw_13 := Lib.hid (own_below Rw_12.out hb)
  have Xa_13 := Lib.hid (own_below Xa_12.out hb)
  have Xb_13 := Lib.hid (own_below Xb_12.out hb)
  have Rg_13 := Lib.hid (own_below Rg_12.out hb)
  have Vb_13 := Lib.hid (own_below Vb_12.out hb)
  have HB_13 : Hid (Below w.heap.size w w13) := Lib.hid (HB_12.out.trans (hb.mono HB_12.out.size))
  clear hb  pa_12 qa_12 xa_12 xab_12 Rw_12 Xa_12 Xb_12 Rg_12 Vb_12 HB_12
  clear Vb_13
  go_wp2_with fail
  refine (markFlag_any (1) _ _ _ _ _ _ _ Xa_13.out (by omega) (by have := HNa.out; have := HNb.out; omega)).mono ?_
  rintro e w14 ⟨rfl, ho, hg⟩
  have hs14 : w13.heap.size ≤ w14.heap.size := hg.size
  have pa_14 := hg.cell pa_13 (by first | exact fun h => XaN.out h.symm | exact fun h => by have := XaL.out _ h.symm; simp only at this; omega)
  have qa_14 := hg.cell qa_13 (by first | exact fun h => XaN.out h.symm | exact fun h => by have := XaL.out _ h.symm; simp only at this; omega)
  have xa_14 := hg.cell xa_13 (by first | exact fun h => XaN.out h.symm | exact fun h => by have := XaL.out _ h.symm; simp only at this; omega)
  have xab_14 := hg.cell xab_13 (by first | exact fun h => XaN.out h.symm | exact fun h => by have := XaL.out _ h.symm; simp only at this; omega)
  have Rw_14 := Lib.hid (Rw_13.out.kept hg (by
    cases h : (Value.slice Aw ms.length cw).ownBlock with
    | none => exact .inl rfl
    | some q => exact .inr (fun e => by have := RwL.out q h; have := XaL.out q e.symm; omega)))
  have Xb_14 := Lib.hid (Xb_13.out.kept hg (by
    cases h : (Value.slice (some ⟨w6.heap.size, 0, none⟩) nb nb).ownBlock with
    | none => exact .inl rfl
    | some q => exact .inr (fun e => by have := XbL.out q h; have := XaL.out q e.symm; omega)))
  have Rg_14 := Lib.hid (Rg_13.out.kept hg (by
    cases h : (Value.slice Ag ms.length cg).ownBlock with
    | none => exact .inl rfl
    | some q => exact .inr (fun e => by have := RgL.out q h; have := XaL.out q e.symm; omega)))
  have HB_14 : Hid (Below w.heap.size w w14) := Lib.hid (HB_13.out.grown hg HB_13.out.size (fun q hq => by have := XaL.out q hq; omega))
  have Xa_14 := Lib.hid ho
  clear ho hg pa_13 qa_13 xa_13 xab_13 Rw_13 Xa_13 Xb_13 Rg_13 HB_13
  clear xa_14
  clear xab_14
  go_wp2_with fail
  refine (markIntS_any (1 + 2 * (na : Int)) _ _ _ _ _ _ Xb_14.out (by omega) (by have := HNa.out; have := HNb.out; omega)).mono ?_
  rintro e w15 ⟨rfl, ho, hg⟩
  have hs15 : w14.heap.size ≤ w15.heap.size := hg.size
  have pa_15 := hg.cell pa_14 (by first | exact fun h => XbN.out h.symm | exact fun h => by have := XbL.out _ h.symm; simp only at this; omega)
  have qa_15 := hg.cell qa_14 (by first | exact fun h => XbN.out h.symm | exact fun h => by have := XbL.out _ h.symm; simp only at this; omega)
  have Rw_15 := Lib.hid (Rw_14.out.kept hg (by
    cases h : (Value.slice Aw ms.length cw).ownBlock with
    | none => exact .inl rfl
    | some q => exact .inr (fun e => by have := RwL.out q h; have := XbL.out q e.symm; omega)))
  have Xa_15 := Lib.hid (Xa_14.out.kept hg (by
    cases h : (Value.slice (some ⟨gXa, 0, none⟩) na na).ownBlock with
    | none => exact .inl rfl
    | some q => exact .inr (fun e => by have := XaL.out q h; have := XbL.out q e.symm; omega)))
  have Rg_15 := Lib.hid (Rg_14.out.kept hg (by
    cases h : (Value.slice Ag ms.length cg).ownBlock with
    | none => exact .inl rfl
    | some q => exact .inr (fun e => by have := RgL.out q h; have := XbL.out q e.symm; omega)))
  have HB_15 : Hid (Below w.heap.size w w15) := Lib.hid (HB_14.out.grown hg HB_14.out.size (fun q hq => by have := XbL.out q hq; omega))
  have Xb_15 := Lib.hid ho
  clear ho hg pa_14 qa_14 Rw_14 Xa_14 Xb_14 Rg_14 HB_14
  have hkk : ¬ (1 + 2 * (na : Int) + (nb : Int) < 0) := by omega
  go_wp2_with fail
  refine (eqArmS_any ms _ _ _ _ _ _ _ (sa_of_own Rg_15.out OKM.out) (sa_of_own Rw_15.out OKM.out)).mono ?_
  rintro e w16 ⟨rfl, hb⟩
  have hs16 : w15.heap.size ≤ w16.heap.size := hb.size
  have pa_16 := keep1 hb pa_15
  have qa_16 := keep1 hb qa_15
  have Rw_16 := Lib.hid (own_below Rw_15.out hb)
  have Xa_16 := Lib.hid (own_below Xa_15.out hb)
  have Xb_16 := Lib.hid (own_below Xb_15.out hb)
  have Rg_16 := Lib.hid (own_below Rg_15.out hb)
  have HB_16 : Hid (Below w.heap.size w w16) := Lib.hid (HB_15.out.trans (hb.mono HB_15.out.size))
  clear hb  pa_15 qa_15 Rw_15 Xa_15 Xb_15 Rg_15 HB_15
  go_wp2_with fail
  refine (markArmS_any 1 _ _ _ _ _ _ Rg_16.out (by omega) (by omega)).mono ?_
  rintro e w17 ⟨rfl, ho, hg⟩
  have hs17 : w16.heap.size ≤ w17.heap.size := hg.size
  have pa_17 := hg.cell pa_16 (by first | exact fun h => RgN.out h.symm | exact fun h => by have := RgL.out _ h.symm; simp only at this; omega)
  have qa_17 := hg.cell qa_16 (by first | exact fun h => RgN.out h.symm | exact fun h => by have := RgL.out _ h.symm; simp only at this; omega)
  have Rw_17 := Lib.hid (Rw_16.out.kept hg (by
    cases h : (Value.slice Aw ms.length cw).ownBlock with
    | none => exact .inl rfl
    | some q => exact .inr (fun e => by have := RwL.out q h; have := RgL.out q e.symm; omega)))
  have Xa_17 := Lib.hid (Xa_16.out.kept hg (by
    cases h : (Value.slice (some ⟨gXa, 0, none⟩) na na).ownBlock with
    | none => exact .inl rfl
    | some q => exact .inr (fun e => by have := XaL.out q h; have := RgL.out q e.symm; omega)))
  have Xb_17 := Lib.hid (Xb_16.out.kept hg (by
    cases h : (Value.slice (some ⟨w6.heap.size, 0, none⟩) nb nb).ownBlock with
    | none => exact .inl rfl
    | some q => exact .inr (fun e => by have := XbL.out q h; have := RgL.out q e.symm; omega)))
  have HB_17 : Hid (Below w.heap.size w w17) := Lib.hid (HB_16.out.grown hg HB_16.out.size (fun q hq => by have := RgL.out q hq; omega))
  have Rg_17 := Lib.hid ho
  clear ho hg pa_16 qa_16 Rw_16 Xa_16 Xb_16 Rg_16 HB_16
  go_wp2_with fail
  refine (heldArmS_any 1 _ _ _ _ _ Rg_17.out (by omega) (by omega)).mono ?_
  rintro e w18 ⟨rfl, hb⟩
  have hs18 : w17.heap.size ≤ w18.heap.size := hb.size
  have pa_18 := keep1 hb pa_17
  have qa_18 := keep1 hb qa_17
  have Rw_18 := Lib.hid (own_below Rw_17.out hb)
  have Xa_18 := Lib.hid (own_below Xa_17.out hb)
  have Xb_18 := Lib.hid (own_below Xb_17.out hb)
  have Rg_18 := Lib.hid (own_below Rg_17.out hb)
  have HB_18 : Hid (Below w.heap.size w w18) := Lib.hid (HB_17.out.trans (hb.mono HB_17.out.size))
  clear hb  pa_17 qa_17 Rw_17 Xa_17 Xb_17 Rg_17 HB_17
  have hqq : ¬ (1 + 2 * (ms.length : Int) < 0) := by omega
  go_wp2_with fail
  refine (toFlag_any dsa ba Aa ca na _ ((HRa.out.below HB_18.out).call HB_18.out.size) HNa.out).mono ?_
  rintro e w19 ⟨gTa, rfl, ho, hb⟩
  have hs19 : w18.heap.size ≤ w19.heap.size := hb.size
  have pa_19 := keep1 hb pa_18
  have qa_19 := keep1 hb qa_18
  have Rw_19 := Lib.hid (own_below Rw_18.out hb)
  have Xa_19 := Lib.hid (own_below Xa_18.out hb)
  have Xb_19 := Lib.hid (own_below Xb_18.out hb)
  have Rg_19 := Lib.hid (own_below Rg_18.out hb)
  have HB_19 : Hid (Below w.heap.size w w19) := Lib.hid (HB_18.out.trans (hb.mono HB_18.out.size))
  have Ta_19 : Hid (w19.ownsRow w18.heap.size 48 2 (.slice (some ⟨gTa, 0, none⟩) na na) na (flat dsa)) := Lib.hid ho
  have TaL : Hid (∀ q, (Value.slice (some ⟨gTa, 0, none⟩) na na).ownBlock = some q → w18.heap.size ≤ q ∧ q < w19.heap.size) := Lib.hid (fun q hq => ho.lt q hq)
  clear ho hb pa_18 qa_18 Rw_18 Xa_18 Xb_18 Rg_18 HB_18
  go_wp2_with fail
  refine (toIntS_any ssb Ab cb nb _ ((HRb.out.below HB_19.out).call HB_19.out.size) HNb.out).mono ?_
  rintro e w20 ⟨rfl, ho, hb⟩
  have hs20 : w19.heap.size ≤ w20.heap.size := hb.size
  have pa_20 := keep1 hb pa_19
  have qa_20 := keep1 hb qa_19
  have Rw_20 := Lib.hid (own_below Rw_19.out hb)
  have Xa_20 := Lib.hid (own_below Xa_19.out hb)
  have Xb_20 := Lib.hid (own_below Xb_19.out hb)
  have Rg_20 := Lib.hid (own_below Rg_19.out hb)
  have Ta_20 := Lib.hid (own_below Ta_19.out hb)
  have HB_20 : Hid (Below w.heap.size w w20) := Lib.hid (HB_19.out.trans (hb.mono HB_19.out.size))
  have Tb_20 : Hid (w20.ownsRow w19.heap.size 3 1 (.slice (some ⟨w19.heap.size, 0, none⟩) nb nb) nb (flatI ssb)) := Lib.hid ho
  have TbL : Hid (∀ q, (Value.slice (some ⟨w19.heap.size, 0, none⟩) nb nb).ownBlock = some q → w19.heap.size ≤ q ∧ q < w20.heap.size) := Lib.hid (fun q hq => ho.lt q hq)
  clear ho hb pa_19 qa_19 Rw_19 Xa_19 Xb_19 Rg_19 Ta_19 HB_19
  go_wp2_with fail
  refine (IMC.out _ _ _ _ _ _ _ (sd_of_own Ta_20.out HRa.out.ok) HNa.out (si_of_own Tb_20.out HRb.out.ok) HNb.out).mono ?_
  rintro e w21 ⟨Ah, ch, rfl, ho, hb⟩
  have hs21 : w20.heap.size ≤ w21.heap.size := hb.size
  have pa_21 := keep1 hb pa_20
  have qa_21 := keep1 hb qa_20
  have Rw_21 := Lib.hid (own_below Rw_20.out hb)
  have Xa_21 := Lib.hid (own_below Xa_20.out hb)
  have Xb_21 := Lib.hid (own_below Xb_20.out hb)
  have Rg_21 := Lib.hid (own_below Rg_20.out hb)
  have Ta_21 := Lib.hid (own_below Ta_20.out hb)
  have Tb_21 := Lib.hid (own_below Tb_20.out hb)
  have HB_21 : Hid (Below w.heap.size w w21) := Lib.hid (HB_20.out.trans (hb.mono HB_20.out.size))
  have Rh_21 : Hid (w21.ownsRow w20.heap.size 72 2 (.slice Ah ms.length ch) ms.length (flatA ms)) := Lib.hid ho
  have RhL : Hid (∀ q, (Value.slice Ah ms.length ch).ownBlock = some q → w20.heap.size ≤ q ∧ q < w21.heap.size) := Lib.hid (fun q hq => ho.lt q hq)
  clear ho hb pa_20 qa_20 Rw_20 Xa_20 Xb_20 Rg_20 Ta_20 Tb_20 HB_20
  clear Ta_21
  clear Tb_21
  go_wp2_with fail
  refine (eqArmS_any ms _ _ _ _ _ _ _ (sa_of_own Rh_21.out OKM.out) (sa_of_own Rw_21.out OKM.out)).mono ?_
  rintro e w22 ⟨rfl, hb⟩
  have hs22 : w21.heap.size ≤ w22.heap.size := hb.size
  have pa_22 := keep1 hb pa_21
  have qa_22 := keep1 hb qa_21
  have Rw_22 := Lib.hid (own_below Rw_21.out hb)
  have Xa_22 := Lib.hid (own_below Xa_21.out hb)
  have Xb_22 := Lib.hid (own_below Xb_21.out hb)
  have Rg_22 := Lib.hid (own_below Rg_21.out hb)
  have Rh_22 := Lib.hid (own_below Rh_21.out hb)
  have HB_22 : Hid (Below w.heap.size w w22) := Lib.hid (HB_21.out.trans (hb.mono HB_21.out.size))
  clear hb  pa_21 qa_21 Rw_21 Xa_21 Xb_21 Rg_21 Rh_21 HB_21
  go_wp2_with fail
  refine (heldArmS_any 1 _ _ _ _ _ Rg_22.out (by omega) (by omega)).mono ?_
  rintro e w23 ⟨rfl, hb⟩
  have hs23 : w22.heap.size ≤ w23.heap.size := hb.size
  have pa_23 := keep1 hb pa_22
  have qa_23 := keep1 hb qa_22
  have Rw_23 := Lib.hid (own_below Rw_22.out hb)
  have Xa_23 := Lib.hid (own_below Xa_22.out hb)
  have Xb_23 := Lib.hid (own_below Xb_22.out hb)
  have Rg_23 := Lib.hid (own_below Rg_22.out hb)
  have Rh_23 := Lib.hid (own_below Rh_22.out hb)
  have HB_23 : Hid (Below w.heap.size w w23) := Lib.hid (HB_22.out.trans (hb.mono HB_22.out.size))
  clear hb  pa_22 qa_22 Rw_22 Xa_22 Xb_22 Rg_22 Rh_22 HB_22
  go_wp2
  go_ret
  exact ⟨rfl, HB_23.out⟩

theorem walk (Aa : Option Addr) (na ca : Nat) (dsa : List D) (ba : Int) (Ab : Option Addr) (nb cb : Nat) (ssb : List Int) (w : World) (hra : SD w w.heap.size Aa na ca dsa) (hba : -9223372036854775808 ≤ ba ∧ ba ≤ 9223372036854775807) (hrb : SI w w.heap.size Ab nb cb ssb) :
    Calls Try.prog 5 #[.agg #[.slice Aa na ca, .int .i64 ba], .slice Ab nb cb] w fun e w' => e = .returned (.bool true) ∧ Below w.heap.size w w' := by
  have hl := mGreat_len dsa ba ssb
  exact walkV Aa na ca dsa ba Ab nb cb ssb (mGreat dsa ba ssb) w hra hrb (Lib.hid fun A n c A2 n2 c2 w h hn h2 hn2 => specGreat_any dsa ba ssb A n c w h A2 n2 c2 h2) (Lib.hid fun A n c A2 n2 c2 w h hn h2 hn2 => implGreat_any dsa ba ssb A n c w h A2 n2 c2 h2 hn) (Lib.hid (mGreat_ok dsa ba ssb)) (by omega)

set_option maxRecDepth 100000 in
theorem lifted (os : Os) (started : os.Started) (H : Type) (enc : TypeId × Value → H) :
    ReturnsInHanded {} Try.checked os 5 .any (Rows.fnExactGreatestArmsSpec.pre6 enc Try.prog Try.f5 Rows.fnExactGreatestArmsRow.domain false) (Rows.fnExactGreatestArmsSpec.post enc Try.prog Try.f5 false true false false) := by
  refine returnsInHanded_of_change (C := Try.checked) own started (by kernel_rfl) Try.func5
    (ChangeSpec.witness6 (enc := enc) (C := Try.checked) false ⟨#[], #[.agg #[.slice none 0 0, .int .i64 0], .slice none 0 0], []⟩ 8 (by kernel_rfl) (by kernel_rfl) (by kernel_rfl) (by kernel_rfl)) ?_
  intro W base args ds gs before hval0 hW hcnd _
  have hval : ∀ (j : Nat) t v, Try.f5.params[j]? = some t → args[j]? = some v → Value.okWide Try.prog W .any base t v := hval0
  have hW' := hW
  obtain ⟨p, q, hA0, hV, rfl, hfz, hnd⟩ := hW
  have hA : DataW.TrodAll enc Try.prog W 0 (fun _ => true) true Try.f5.params.toList args.toList ds p := hA0
  rw [Try.params5] at hA hval
  obtain ⟨v0, vs0, d0, ds0, p0, q0, hargs, rfl, rfl, h0, r0⟩ := trodAll_cons hA
  obtain ⟨v1, vs1, d1, ds1, p1, q1, rfl, rfl, rfl, h1, r1⟩ := trodAll_cons r0
  obtain ⟨rfl, rfl, rfl⟩ := trodAll_nil r1
  obtain rfl : args = #[v0, v1] := by cases args; simp_all
  obtain ⟨rfl, rfl⟩ := trodVars_none hV
  have k0 := h0
  have lt0 : ∀ x ∈ p0, x.block < W.heap.size := by obtain ⟨m, hm⟩ := k0; exact DataW.trod_lt m _ _ _ hm
  obtain ⟨A0, n0, c0, l0, b0, rfl, w0, wb0⟩ := open_flag (hval 0 53 v0 rfl rfl) h0
  have k1 := h1
  have lt1 : ∀ x ∈ p1, x.block < W.heap.size := by obtain ⟨m, hm⟩ := k1; exact DataW.trod_lt m _ _ _ hm
  obtain ⟨A1, n1, c1, l1, rfl, w1⟩ := open_ints (hval 1 27 v1 rfl rfl) h1
  clear hA0 hval0
  refine (walk A0 n0 c0 l0 b0 A1 n1 c1 l1 W w0 wb0 w1).mono fun e W' ⟨he, bel⟩ => ?_
  subst he
  exact ⟨_, rfl, _, _, _, [], _, [], hW', trodAll_mk1 (shut_bool Try.underlying4 _), (trodAll_cons_mk (Below.trod laidOut (by kernel_rfl) (of_decide_eq_true (by kernel_rfl)) k0 bel lt0) (trodAll_cons_mk (Below.trod laidOut (by kernel_rfl) (of_decide_eq_true (by kernel_rfl)) k1 bel lt1) trodAll_mk0)), rfl, bel.frame _, fun h => by cases h⟩

theorem over : Rows.fnExactGreatestArmsRow.holds Try.pinned (OpenSpec.ofChange Rows.fnExactGreatestArmsSpec) :=
  OpenClaim.holds_of_wide 5 Try.f5 rfl rfl rfl rfl rfl rfl rfl ⟨rfl, rfl, rfl, rfl, rfl⟩ rfl rfl rfl rfl rfl (by kernel_rfl) Try.func5 (by kernel_rfl)
    (of_decide_eq_true (by kernel_rfl)) (by unfold Func.isWrapper; first | (rw [if_pos (by decide +kernel)]; kernel_rfl) | (rw [if_neg (by decide +kernel)]; exact ⟨rfl, rfl⟩))
    (fun os started H enc _ => lifted os started H enc)

theorem proved : Rows.FnExactGreatestArmsSaid := over
end Go.Proofs.Ytpmanbmhbfnefaa.fnExactGreatestArms
