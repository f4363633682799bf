/-
For every class of flags and every number the law on exact answers of ShortNames returns true: the program's ShortNames answers as its model does, and leaves its arguments as they were, and its answer owns its memory.
Conditions: none.
-/
import Derived.Test.YteaiaglangmhbaaFlagX
import Derived.Deep.DeepCutAuto
import Derived.Test.YteaiaglangmhbaaFewC
import Derived.Test.YteaiaglangmhbaaFewT
namespace Go.Proofs.Yteaiaglangmhbaa.fnExactShortNames
open Go.ChangeShapes Go.WideShapes Go.ChangeAt Go.RowKit
open Go.ChangeMaps (open_string shut_string)
set_option linter.unusedVariables false
set_option maxRecDepth 100000

set_option maxHeartbeats 16000000 in
theorem walkV (Aa : Option Addr) (na ca : Nat) (dsa : List D) (ba : Int) (zb : Int) (ms : List ByteArray) (w : World) (hra : SD w w.heap.size Aa na ca dsa)
    (SPC : Hid (∀ (Aa : Option Addr) (na ca : Nat) (w : World), SD w w.heap.size Aa na ca dsa → na ≤ 1048576 → Calls Try.prog 19 #[.agg #[.slice Aa na ca, .int .i64 ba], .int .i64 zb] w (StrsP ms w)))
    (IMC : Hid (∀ (Aa : Option Addr) (na ca : Nat) (w : World), SD w w.heap.size Aa na ca dsa → na ≤ 1048576 → Calls Try.prog 20 #[.agg #[.slice Aa na ca, .int .i64 ba], .int .i64 zb] w (StrsP ms w))) (OKM : Hid (∀ s ∈ ms, s.size ≤ maxLen)) (hml : ms.length ≤ 1000000) :
    Calls Try.prog 4 #[.agg #[.slice Aa na ca, .int .i64 ba], .int .i64 zb] w fun e w' => e = .returned (.bool true) ∧ Below w.heap.size w w' := by
  obtain ⟨w0, hw⟩ : ∃ W : World, W = (w.alloc (.cells #[.slice Aa na ca, .int .i64 ba] 24)) := ⟨_, rfl⟩
  have hb : Below w.heap.size w w0 := by rw [hw]; exact ((Below.refl _ _).alloc (by first | exact Nat.le_refl _ | (simp; done) | (simp; omega)) _)
  have hs0 : w.heap.size + 1 ≤ w0.heap.size := by rw [hw]; simp
  have pa_0 : w0.cell? ⟨w.heap.size, 0, none⟩ = some (.slice Aa na ca) := by rw [hw]; simp [go_sem]
  have qa_0 : w0.cell? ⟨w.heap.size, 1, none⟩ = some (.int .i64 ba) := by rw [hw]; simp [go_sem]
  have HRa := Lib.hid hra
  clear hra
  have HB_0 := Lib.hid hb
  have HW0 : Hid ((w.alloc (.cells #[.slice Aa na ca, .int .i64 ba] 24)) = w0) := Lib.hid hw.symm
  clear hb hw
  go_enter Try.func4, Try.ntmps4
  go_wp2_with fail
  rw [HW0.out]
  refine (szFlag_any dsa ba Aa ca na 1048576 _ ((HRa.out.below HB_0.out).call HB_0.out.size) (by omega) (by omega)).mono ?_
  rintro e w1 ⟨ra, rfl, raa, rba, rca, hb⟩
  have hs1 : w0.heap.size ≤ w1.heap.size := hb.size
  have pa_1 := keep1 hb pa_0
  have qa_1 := keep1 hb qa_0
  have HB_1 : Hid (Below w.heap.size w w1) := Lib.hid (HB_0.out.trans (hb.mono HB_0.out.size))
  have HQa := Lib.hid rca
  clear hb rca pa_0 qa_0 HB_0
  by_cases hnega : ra < 0
  · go_wp2
    go_ret
    exact ⟨rfl, HB_1.out⟩
  have HNa : Hid (na ≤ 1048576) := Lib.hid (by have := HQa.out (by omega); omega)
  clear HQa
  go_wp2_with fail
  refine (toFlag_any dsa ba Aa ca na _ ((HRa.out.below HB_1.out).call HB_1.out.size) HNa.out).mono ?_
  rintro e w2 ⟨gTa, rfl, ho, hb⟩
  have hs2 : w1.heap.size ≤ w2.heap.size := hb.size
  have pa_2 := keep1 hb pa_1
  have qa_2 := keep1 hb qa_1
  have HB_2 : Hid (Below w.heap.size w w2) := Lib.hid (HB_1.out.trans (hb.mono HB_1.out.size))
  have Ta_2 : Hid (w2.ownsRow w1.heap.size 70 2 (.slice (some ⟨gTa, 0, none⟩) na na) na (flat dsa)) := Lib.hid ho
  have TaL : Hid (∀ q, (Value.slice (some ⟨gTa, 0, none⟩) na na).ownBlock = some q → w1.heap.size ≤ q ∧ q < w2.heap.size) := Lib.hid (fun q hq => ho.lt q hq)
  clear ho hb pa_1 qa_1 HB_1
  go_wp2_with fail
  refine (SPC.out _ _ _ _ (sd_of_own Ta_2.out HRa.out.ok) HNa.out).mono ?_
  rintro e w3 ⟨Aw, cw, rfl, ho, hb⟩
  have hs3 : w2.heap.size ≤ w3.heap.size := hb.size
  have pa_3 := keep1 hb pa_2
  have qa_3 := keep1 hb qa_2
  have Ta_3 := Lib.hid (own_below Ta_2.out hb)
  have HB_3 : Hid (Below w.heap.size w w3) := Lib.hid (HB_2.out.trans (hb.mono HB_2.out.size))
  have Rw_3 : Hid (w3.ownsRow w2.heap.size 9 1 (.slice Aw ms.length cw) ms.length (flatS ms)) := Lib.hid ho
  have RwL : Hid (∀ q, (Value.slice Aw ms.length cw).ownBlock = some q → w2.heap.size ≤ q ∧ q < w3.heap.size) := Lib.hid (fun q hq => ho.lt q hq)
  clear ho hb pa_2 qa_2 Ta_2 HB_2
  clear Ta_3
  go_wp2_with fail
  refine (toFlag_any dsa ba Aa ca na _ ((HRa.out.below HB_3.out).call HB_3.out.size) HNa.out).mono ?_
  rintro e w4 ⟨gXa, rfl, ho, hb⟩
  have hs4 : w3.heap.size ≤ w4.heap.size := hb.size
  have pa_4 := keep1 hb pa_3
  have qa_4 := keep1 hb qa_3
  have Rw_4 := Lib.hid (own_below Rw_3.out hb)
  have HB_4 : Hid (Below w.heap.size w w4) := Lib.hid (HB_3.out.trans (hb.mono HB_3.out.size))
  have Xa_4 : Hid (w4.ownsRow w3.heap.size 70 2 (.slice (some ⟨gXa, 0, none⟩) na na) na (flat dsa)) := Lib.hid ho
  have XaL : Hid (∀ q, (Value.slice (some ⟨gXa, 0, none⟩) na na).ownBlock = some q → w3.heap.size ≤ q ∧ q < w4.heap.size) := Lib.hid (fun q hq => ho.lt q hq)
  clear ho hb pa_3 qa_3 Rw_3 HB_3
  obtain ⟨w5, hw⟩ : ∃ W : World, W = (w4.alloc (.cells #[.slice (some ⟨gXa, 0, none⟩) na na, .int .i64 ba] 30)) := ⟨_, rfl⟩
  have hb : Below w4.heap.size w4 w5 := by rw [hw]; exact (Below.refl _ _).alloc (Nat.le_refl _) _
  have hs5 : w4.heap.size + 1 ≤ w5.heap.size := by rw [hw]; simp
  have pa_5 := keep1 hb pa_4
  have qa_5 := keep1 hb qa_4
  have Rw_5 := Lib.hid (own_below Rw_4.out hb)
  have Xa_5 := Lib.hid (own_below Xa_4.out hb)
  have HB_5 : Hid (Below w.heap.size w w5) := Lib.hid (HB_4.out.trans (hb.mono HB_4.out.size))
  have xa_5 : w5.cell? ⟨w4.heap.size, 0, none⟩ = some (.slice (some ⟨gXa, 0, none⟩) na na) := by rw [hw]; simp [go_sem]
  have xab_5 : w5.cell? ⟨w4.heap.size, 1, none⟩ = some (.int .i64 ba) := by rw [hw]; simp [go_sem]
  have lf_pa : (w4.alloc (.cells #[.slice (some ⟨gXa, 0, none⟩) na na, .int .i64 ba] 30)).cell? ⟨w.heap.size, 0, none⟩ = some (.slice Aa na ca) := by rw [← hw]; exact pa_5
  have lf_qa : (w4.alloc (.cells #[.slice (some ⟨gXa, 0, none⟩) na na, .int .i64 ba] 30)).cell? ⟨w.heap.size, 1, none⟩ = some (.int .i64 ba) := by rw [← hw]; exact qa_5
  have lf_xa : (w4.alloc (.cells #[.slice (some ⟨gXa, 0, none⟩) na na, .int .i64 ba] 30)).cell? ⟨w4.heap.size, 0, none⟩ = some (.slice (some ⟨gXa, 0, none⟩) na na) := by rw [← hw]; exact xa_5
  have lf_xab : (w4.alloc (.cells #[.slice (some ⟨gXa, 0, none⟩) na na, .int .i64 ba] 30)).cell? ⟨w4.heap.size, 1, none⟩ = some (.int .i64 ba) := by rw [← hw]; exact xab_5
  have HW5 : Hid ((w4.alloc (.cells #[.slice (some ⟨gXa, 0, none⟩) na na, .int .i64 ba] 30)) = w5) := Lib.hid hw.symm
  clear hb hw pa_4 qa_4 Rw_4 Xa_4 HB_4
  go_wp2_with fail
  rw [HW5.out]
  clear lf_pa lf_qa lf_xa lf_xab
  refine (IMC.out _ _ _ _ (sd_of_own Xa_5.out HRa.out.ok) HNa.out).mono ?_
  rintro e w6 ⟨Ag, cg, rfl, ho, hb⟩
  have hs6 : w5.heap.size ≤ w6.heap.size := hb.size
  have pa_6 := keep1 hb pa_5
  have qa_6 := keep1 hb qa_5
  have xa_6 := keep1 hb xa_5
  have xab_6 := keep1 hb xab_5
  have Rw_6 := Lib.hid (own_below Rw_5.out hb)
  have Xa_6 := Lib.hid (own_below Xa_5.out hb)
  have HB_6 : Hid (Below w.heap.size w w6) := Lib.hid (HB_5.out.trans (hb.mono HB_5.out.size))
  have Rg_6 : Hid (w6.ownsRow w5.heap.size 9 1 (.slice Ag ms.length cg) ms.length (flatS ms)) := Lib.hid ho
  have RgL : Hid (∀ q, (Value.slice Ag ms.length cg).ownBlock = some q → w5.heap.size ≤ q ∧ q < w6.heap.size) := Lib.hid (fun q hq => ho.lt q hq)
  clear ho hb pa_5 qa_5 xa_5 xab_5 Rw_5 Xa_5 HB_5
  go_wp2_with fail
  refine (eqStringS_any ms _ _ _ _ _ _ _ (ss_of_own Rg_6.out OKM.out) (ss_of_own Rw_6.out OKM.out)).mono ?_
  rintro e w7 ⟨rfl, hb⟩
  have hs7 : w6.heap.size ≤ w7.heap.size := hb.size
  have pa_7 := keep1 hb pa_6
  have qa_7 := keep1 hb qa_6
  have xa_7 := keep1 hb xa_6
  have xab_7 := keep1 hb xab_6
  have Rw_7 := Lib.hid (own_below Rw_6.out hb)
  have Xa_7 := Lib.hid (own_below Xa_6.out hb)
  have Rg_7 := Lib.hid (own_below Rg_6.out hb)
  have HB_7 : Hid (Below w.heap.size w w7) := Lib.hid (HB_6.out.trans (hb.mono HB_6.out.size))
  clear hb  pa_6 qa_6 xa_6 xab_6 Rw_6 Xa_6 Rg_6 HB_6
  go_wp2_with fail
  have hsd : Hid (SD w7 w7.heap.size Aa na ca dsa) := Lib.hid ((HRa.out.below HB_7.out).call HB_7.out.size)
  go_region_held3 (fun w' => w'.cell? ⟨w.heap.size, 0, none⟩ = some (.slice Aa na ca) ∧ w'.cell? ⟨w.heap.size, 1, none⟩ = some (.int .i64 ba) ∧ w'.cell? ⟨w4.heap.size, 0, none⟩ = some (.slice (some ⟨gXa, 0, none⟩) na na) ∧ w'.cell? ⟨w4.heap.size, 1, none⟩ = some (.int .i64 ba))
    (first
      | go_keep
      | exact ⟨y0, y1, y2, y3⟩ | exact ⟨z0, z1, z2, z3⟩)
    (first
      | (go_at_call 12; refine (toFlag_any dsa ba Aa ca na _ (by first | exact hsd.out | exact hsd.out.drew | exact hsd.out.drewN _) HNa.out).mono ?_; rintro e w8 ⟨gt, rfl, ho, hb⟩; replace hb : Below w7.heap.size w7 w8 := (by first | exact hb | exact undrew hb); have y0 := keep1 hb pa_7; have y1 := keep1 hb qa_7; have y2 := keep1 hb xa_7; have y3 := keep1 hb xab_7)
      | (go_at_call 15; refine (eqFlag_any dsa ba _ _ _ _ _ _ _ (by first | exact sd_of_own (own_below Xa_7.out hb) HRa.out.ok | exact (sd_of_own (own_below Xa_7.out hb) HRa.out.ok).drew) (by first | exact sd_of_own ho HRa.out.ok | exact (sd_of_own ho HRa.out.ok).drew)).mono ?_; rintro e w9 ⟨rfl, hb2⟩; replace hb2 : Below w8.heap.size w8 w9 := (by first | exact hb2 | exact undrew hb2); have z0 := keep1 hb2 y0; have z1 := keep1 hb2 y1; have z2 := keep1 hb2 y2; have z3 := keep1 hb2 y3))
  have hb3 : Below w7.heap.size w7 w9 := hb.trans (hb2.mono hb.size)
  have hs9 : w7.heap.size ≤ w9.heap.size := hb3.size
  have pa_9 := keep1 hb3 pa_7
  have qa_9 := keep1 hb3 qa_7
  have xa_9 := keep1 hb3 xa_7
  have xab_9 := keep1 hb3 xab_7
  have Rw_9 := Lib.hid (own_below Rw_7.out hb3)
  have Xa_9 := Lib.hid (own_below Xa_7.out hb3)
  have Rg_9 := Lib.hid (own_below Rg_7.out hb3)
  have HB_9 : Hid (Below w.heap.size w w9) := Lib.hid (HB_7.out.trans (hb3.mono HB_7.out.size))
  clear hb hb2 hb3 ho y0 z0 y1 z1 y2 z2 y3 z3 hsd pa_7 qa_7 xa_7 xab_7 Rw_7 Xa_7 Rg_7 HB_7
  go_wp2_with fail
  refine (markFlag_any (1) _ _ _ _ _ _ _ Xa_9.out (by omega) (by have := HNa.out; omega)).mono ?_
  rintro e w10 ⟨rfl, ho, hg⟩
  have hs10 : w9.heap.size ≤ w10.heap.size := hg.size
  have pa_10 := hg.cell pa_9 (by first | exact fun h => XaN.out h.symm | exact fun h => by have := XaL.out _ h.symm; simp only at this; omega)
  have qa_10 := hg.cell qa_9 (by first | exact fun h => XaN.out h.symm | exact fun h => by have := XaL.out _ h.symm; simp only at this; omega)
  have xa_10 := hg.cell xa_9 (by first | exact fun h => XaN.out h.symm | exact fun h => by have := XaL.out _ h.symm; simp only at this; omega)
  have xab_10 := hg.cell xab_9 (by first | exact fun h => XaN.out h.symm | exact fun h => by have := XaL.out _ h.symm; simp only at this; omega)
  have Rw_10 := Lib.hid (Rw_9.out.kept hg (by
    cases h : (Value.slice Aw ms.length cw).ownBlock with
    | none => exact .inl rfl
    | some q => exact .inr (fun e => by have := RwL.out q h; have := XaL.out q e.symm; omega)))
  have Rg_10 := Lib.hid (Rg_9.out.kept hg (by
    cases h : (Value.slice Ag ms.length cg).ownBlock with
    | none => exact .inl rfl
    | some q => exact .inr (fun e => by have := RgL.out q h; have := XaL.out q e.symm; omega)))
  have HB_10 : Hid (Below w.heap.size w w10) := Lib.hid (HB_9.out.grown hg HB_9.out.size (fun q hq => by have := XaL.out q hq; omega))
  have Xa_10 := Lib.hid ho
  clear ho hg pa_9 qa_9 xa_9 xab_9 Rw_9 Xa_9 Rg_9 HB_9
  clear xa_10
  clear xab_10
  have hkk : ¬ (1 + 2 * (na : Int) < 0) := by omega
  go_wp2_with fail
  refine (eqStringS_any ms _ _ _ _ _ _ _ (ss_of_own Rg_10.out OKM.out) (ss_of_own Rw_10.out OKM.out)).mono ?_
  rintro e w11 ⟨rfl, hb⟩
  have hs11 : w10.heap.size ≤ w11.heap.size := hb.size
  have pa_11 := keep1 hb pa_10
  have qa_11 := keep1 hb qa_10
  have Rw_11 := Lib.hid (own_below Rw_10.out hb)
  have Xa_11 := Lib.hid (own_below Xa_10.out hb)
  have Rg_11 := Lib.hid (own_below Rg_10.out hb)
  have HB_11 : Hid (Below w.heap.size w w11) := Lib.hid (HB_10.out.trans (hb.mono HB_10.out.size))
  clear hb  pa_10 qa_10 Rw_10 Xa_10 Rg_10 HB_10
  go_wp2_with fail
  refine (markStringS_any 1 _ _ _ _ _ _ Rg_11.out (by omega) (by omega)).mono ?_
  rintro e w12 ⟨rfl, ho, hg⟩
  have hs12 : w11.heap.size ≤ w12.heap.size := hg.size
  have pa_12 := hg.cell pa_11 (by first | exact fun h => RgN.out h.symm | exact fun h => by have := RgL.out _ h.symm; simp only at this; omega)
  have qa_12 := hg.cell qa_11 (by first | exact fun h => RgN.out h.symm | exact fun h => by have := RgL.out _ h.symm; simp only at this; omega)
  have Rw_12 := Lib.hid (Rw_11.out.kept hg (by
    cases h : (Value.slice Aw ms.length cw).ownBlock with
    | none => exact .inl rfl
    | some q => exact .inr (fun e => by have := RwL.out q h; have := RgL.out q e.symm; omega)))
  have Xa_12 := Lib.hid (Xa_11.out.kept hg (by
    cases h : (Value.slice (some ⟨gXa, 0, none⟩) na na).ownBlock with
    | none => exact .inl rfl
    | some q => exact .inr (fun e => by have := XaL.out q h; have := RgL.out q e.symm; omega)))
  have HB_12 : Hid (Below w.heap.size w w12) := Lib.hid (HB_11.out.grown hg HB_11.out.size (fun q hq => by have := RgL.out q hq; omega))
  have Rg_12 := Lib.hid ho
  clear ho hg pa_11 qa_11 Rw_11 Xa_11 Rg_11 HB_11
  go_wp2_with fail
  refine (heldStringS_any 1 _ _ _ _ _ Rg_12.out (by omega) (by omega)).mono ?_
  rintro e w13 ⟨rfl, hb⟩
  have hs13 : w12.heap.size ≤ w13.heap.size := hb.size
  have pa_13 := keep1 hb pa_12
  have qa_13 := keep1 hb qa_12
  have Rw_13 := Lib.hid (own_below Rw_12.out hb)
  have Xa_13 := Lib.hid (own_below Xa_12.out hb)
  have Rg_13 := Lib.hid (own_below Rg_12.out hb)
  have HB_13 : Hid (Below w.heap.size w w13) := Lib.hid (HB_12.out.trans (hb.mono HB_12.out.size))
  clear hb  pa_12 qa_12 Rw_12 Xa_12 Rg_12 HB_12
  have hqq : ¬ (1 + (ms.length : Int) < 0) := by omega
  go_wp2_with fail
  refine (toFlag_any dsa ba Aa ca na _ ((HRa.out.below HB_13.out).call HB_13.out.size) HNa.out).mono ?_
  rintro e w14 ⟨gTa, rfl, ho, hb⟩
  have hs14 : w13.heap.size ≤ w14.heap.size := hb.size
  have pa_14 := keep1 hb pa_13
  have qa_14 := keep1 hb qa_13
  have Rw_14 := Lib.hid (own_below Rw_13.out hb)
  have Xa_14 := Lib.hid (own_below Xa_13.out hb)
  have Rg_14 := Lib.hid (own_below Rg_13.out hb)
  have HB_14 : Hid (Below w.heap.size w w14) := Lib.hid (HB_13.out.trans (hb.mono HB_13.out.size))
  have Ta_14 : Hid (w14.ownsRow w13.heap.size 70 2 (.slice (some ⟨gTa, 0, none⟩) na na) na (flat dsa)) := Lib.hid ho
  have TaL : Hid (∀ q, (Value.slice (some ⟨gTa, 0, none⟩) na na).ownBlock = some q → w13.heap.size ≤ q ∧ q < w14.heap.size) := Lib.hid (fun q hq => ho.lt q hq)
  clear ho hb pa_13 qa_13 Rw_13 Xa_13 Rg_13 HB_13
  go_wp2_with fail
  refine (IMC.out _ _ _ _ (sd_of_own Ta_14.out HRa.out.ok) HNa.out).mono ?_
  rintro e w15 ⟨Ah, ch, rfl, ho, hb⟩
  have hs15 : w14.heap.size ≤ w15.heap.size := hb.size
  have pa_15 := keep1 hb pa_14
  have qa_15 := keep1 hb qa_14
  have Rw_15 := Lib.hid (own_below Rw_14.out hb)
  have Xa_15 := Lib.hid (own_below Xa_14.out hb)
  have Rg_15 := Lib.hid (own_below Rg_14.out hb)
  have Ta_15 := Lib.hid (own_below Ta_14.out hb)
  have HB_15 : Hid (Below w.heap.size w w15) := Lib.hid (HB_14.out.trans (hb.mono HB_14.out.size))
  have Rh_15 : Hid (w15.ownsRow w14.heap.size 9 1 (.slice Ah ms.length ch) ms.length (flatS ms)) := Lib.hid ho
  have RhL : Hid (∀ q, (Value.slice Ah ms.length ch).ownBlock = some q → w14.heap.size ≤ q ∧ q < w15.heap.size) := Lib.hid (fun q hq => ho.lt q hq)
  clear ho hb pa_14 qa_14 Rw_14 Xa_14 Rg_14 Ta_14 HB_14
  clear Ta_15
  go_wp2_with fail
  refine (eqStringS_any ms _ _ _ _ _ _ _ (ss_of_own Rh_15.out OKM.out) (ss_of_own Rw_15.out OKM.out)).mono ?_
  rintro e w16 ⟨rfl, hb⟩
  have hs16 : w15.heap.size ≤ w16.heap.size := hb.size
  have pa_16 := keep1 hb pa_15
  have qa_16 := keep1 hb qa_15
  have Rw_16 := Lib.hid (own_below Rw_15.out hb)
  have Xa_16 := Lib.hid (own_below Xa_15.out hb)
  have Rg_16 := Lib.hid (own_below Rg_15.out hb)
  have Rh_16 := Lib.hid (own_below Rh_15.out hb)
  have HB_16 : Hid (Below w.heap.size w w16) := Lib.hid (HB_15.out.trans (hb.mono HB_15.out.size))
  clear hb  pa_15 qa_15 Rw_15 Xa_15 Rg_15 Rh_15 HB_15
  go_wp2_with fail
  refine (heldStringS_any 1 _ _ _ _ _ Rg_16.out (by omega) (by omega)).mono ?_
  rintro e w17 ⟨rfl, hb⟩
  have hs17 : w16.heap.size ≤ w17.heap.size := hb.size
  have pa_17 := keep1 hb pa_16
  have qa_17 := keep1 hb qa_16
  have Rw_17 := Lib.hid (own_below Rw_16.out hb)
  have Xa_17 := Lib.hid (own_below Xa_16.out hb)
  have Rg_17 := Lib.hid (own_below Rg_16.out hb)
  have Rh_17 := Lib.hid (own_below Rh_16.out hb)
  have HB_17 : Hid (Below w.heap.size w w17) := Lib.hid (HB_16.out.trans (hb.mono HB_16.out.size))
  clear hb  pa_16 qa_16 Rw_16 Xa_16 Rg_16 Rh_16 HB_16
  go_wp2
  go_ret
  exact ⟨rfl, HB_17.out⟩

theorem walk (Aa : Option Addr) (na ca : Nat) (dsa : List D) (ba : Int) (zb : Int) (w : World) (hra : SD w w.heap.size Aa na ca dsa) (hba : -9223372036854775808 ≤ ba ∧ ba ≤ 9223372036854775807) (hzb : -9223372036854775808 ≤ zb ∧ zb ≤ 9223372036854775807) :
    Calls Try.prog 4 #[.agg #[.slice Aa na ca, .int .i64 ba], .int .i64 zb] w fun e w' => e = .returned (.bool true) ∧ Below w.heap.size w w' := by
  exact walkV Aa na ca dsa ba zb (mShortN dsa ba zb) w hra (Lib.hid fun A n c w h hn => specShortN_any dsa ba zb A n c w h hn) (Lib.hid fun A n c w h hn => implShortN_any dsa ba zb A n c w h hn) (Lib.hid (mShortN_ok hra.ok)) (by have := mShortN_len dsa ba zb; omega)

set_option maxRecDepth 100000 in
theorem lifted (os : Os) (started : os.Started) (H : Type) (enc : TypeId × Value → H) :
    ReturnsInHanded {} Try.checked os 4 .any (Rows.fnExactShortNamesSpec.pre6 enc Try.prog Try.f4 Rows.fnExactShortNamesRow.domain false) (Rows.fnExactShortNamesSpec.post enc Try.prog Try.f4 false true false false) := by
  refine returnsInHanded_of_change (C := Try.checked) own started (by kernel_rfl) Try.func4
    (ChangeSpec.witness6 (enc := enc) (C := Try.checked) false ⟨#[], #[.agg #[.slice none 0 0, .int .i64 0], .int .i64 0], []⟩ 8 (by kernel_rfl) (by kernel_rfl) (by kernel_rfl) (by kernel_rfl)) ?_
  intro W base args ds gs before hval0 hW hcnd _
  have hval : ∀ (j : Nat) t v, Try.f4.params[j]? = some t → args[j]? = some v → Value.okWide Try.prog W .any base t v := hval0
  have hW' := hW
  obtain ⟨p, q, hA0, hV, rfl, hfz, hnd⟩ := hW
  have hA : DataW.TrodAll enc Try.prog W 0 (fun _ => true) true Try.f4.params.toList args.toList ds p := hA0
  rw [Try.params4] at hA hval
  obtain ⟨v0, vs0, d0, ds0, p0, q0, hargs, rfl, rfl, h0, r0⟩ := trodAll_cons hA
  obtain ⟨v1, vs1, d1, ds1, p1, q1, rfl, rfl, rfl, h1, r1⟩ := trodAll_cons r0
  obtain ⟨rfl, rfl, rfl⟩ := trodAll_nil r1
  obtain rfl : args = #[v0, v1] := by cases args; simp_all
  obtain ⟨rfl, rfl⟩ := trodVars_none hV
  have k0 := h0
  have lt0 : ∀ x ∈ p0, x.block < W.heap.size := by obtain ⟨m, hm⟩ := k0; exact DataW.trod_lt m _ _ _ hm
  obtain ⟨A0, n0, c0, l0, b0, rfl, w0, wb0⟩ := open_flag (hval 0 24 v0 rfl rfl) h0
  obtain ⟨a1, rfl, rfl, rfl, w1⟩ := open_int Try.underlying3 (hval 1 3 v1 rfl rfl) h1
  clear hA0 hval0
  refine (walk A0 n0 c0 l0 b0 a1 W w0 wb0 (wf_bounds w1)).mono fun e W' ⟨he, bel⟩ => ?_
  subst he
  exact ⟨_, rfl, _, _, _, [], _, [], hW', trodAll_mk1 (shut_bool Try.underlying4 _), (trodAll_cons_mk (Below.trod laidOut (by kernel_rfl) (of_decide_eq_true (by kernel_rfl)) k0 bel lt0) (trodAll_cons_mk (shut_int Try.underlying3 w1) trodAll_mk0)), rfl, bel.frame _, fun h => by cases h⟩

theorem over : Rows.fnExactShortNamesRow.holds Try.pinned (OpenSpec.ofChange Rows.fnExactShortNamesSpec) :=
  OpenClaim.holds_of_wide 4 Try.f4 rfl rfl rfl rfl rfl rfl rfl ⟨rfl, rfl, rfl, rfl, rfl⟩ rfl rfl rfl rfl rfl (by kernel_rfl) Try.func4 (by kernel_rfl)
    (of_decide_eq_true (by kernel_rfl)) (by unfold Func.isWrapper; first | (rw [if_pos (by decide +kernel)]; kernel_rfl) | (rw [if_neg (by decide +kernel)]; exact ⟨rfl, rfl⟩))
    (fun os started H enc _ => lifted os started H enc)

theorem proved : Rows.FnExactShortNamesSaid := over
end Go.Proofs.Yteaiaglangmhbaa.fnExactShortNames
