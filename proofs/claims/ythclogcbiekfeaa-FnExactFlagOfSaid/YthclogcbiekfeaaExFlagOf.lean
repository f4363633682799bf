/-
For every enumeration the law on exact answers of FlagOf returns true: the program's FlagOf answers as its model does, and leaves its arguments as they were, and its answer owns its memory.
Conditions: none.
-/
import Derived.Test.YthclogcbiekfeaaFlagX
import Derived.Deep.DeepCutAuto
import Derived.Test.YthclogcbiekfeaaConvT
import Derived.Test.YthclogcbiekfeaaConvJ
namespace Go.Proofs.Ythclogcbiekfeaa.fnExactFlagOf
open Go.ChangeShapes Go.WideShapes Go.ChangeAt Go.RowKit
open Go.ChangeMaps (open_string shut_string)
set_option linter.unusedVariables false
set_option maxRecDepth 100000

set_option maxHeartbeats 16000000 in
theorem walkV (Aa : Option Addr) (na ca : Nat) (dsa : List D) (ms : List D) (rb : Int) (w : World) (hra : SD w w.heap.size Aa na ca dsa)
    (SPC : Hid (∀ (Aa : Option Addr) (na ca : Nat) (w : World), SD w w.heap.size Aa na ca dsa → na ≤ 1048576 → Calls Try.prog 24 #[.agg #[.slice Aa na ca]] w (FlagE ms rb w)))
    (IMC : Hid (∀ (Aa : Option Addr) (na ca : Nat) (w : World), SD w w.heap.size Aa na ca dsa → na ≤ 1048576 → Calls Try.prog 25 #[.agg #[.slice Aa na ca]] w (FlagE ms rb w))) (OKM : Hid (∀ d ∈ ms, d.ok)) (hml : ms.length ≤ 1000000) :
    Calls Try.prog 6 #[.agg #[.slice Aa na ca]] w fun e w' => e = .returned (.bool true) ∧ Below w.heap.size w w' := by
  obtain ⟨w0, hw⟩ : ∃ W : World, W = (w.alloc (.cells #[.slice Aa na ca] 24)) := ⟨_, rfl⟩
  have hb : Below w.heap.size w w0 := by rw [hw]; exact ((Below.refl _ _).alloc (by first | exact Nat.le_refl _ | (simp; done) | (simp; omega)) _)
  have hs0 : w.heap.size + 1 ≤ w0.heap.size := by rw [hw]; simp
  have pa_0 : w0.cell? ⟨w.heap.size, 0, none⟩ = some (.slice Aa na ca) := by rw [hw]; simp [go_sem]
  have HRa := Lib.hid hra
  clear hra
  have HB_0 := Lib.hid hb
  have HW0 : Hid ((w.alloc (.cells #[.slice Aa na ca] 24)) = w0) := Lib.hid hw.symm
  clear hb hw
  go_enter Try.func6, Try.ntmps6
  go_wp2_with fail
  rw [HW0.out]
  refine (szEnum_any dsa Aa ca na 1048576 _ ((HRa.out.below HB_0.out).call HB_0.out.size) (by omega) (by omega)).mono ?_
  rintro e w1 ⟨ra, rfl, raa, rba, rca, hb⟩
  have hs1 : w0.heap.size ≤ w1.heap.size := hb.size
  have pa_1 := keep1 hb pa_0
  have HB_1 : Hid (Below w.heap.size w w1) := Lib.hid (HB_0.out.trans (hb.mono HB_0.out.size))
  have HQa := Lib.hid rca
  clear hb rca pa_0 HB_0
  by_cases hnega : ra < 0
  · go_wp2
    go_ret
    exact ⟨rfl, HB_1.out⟩
  have HNa : Hid (na ≤ 1048576) := Lib.hid (by have := HQa.out (by omega); omega)
  clear HQa
  go_wp2_with fail
  refine (toEnum_any dsa Aa ca na _ ((HRa.out.below HB_1.out).call HB_1.out.size) HNa.out).mono ?_
  rintro e w2 ⟨gTa, rfl, ho, hb⟩
  have hs2 : w1.heap.size ≤ w2.heap.size := hb.size
  have pa_2 := keep1 hb pa_1
  have HB_2 : Hid (Below w.heap.size w w2) := Lib.hid (HB_1.out.trans (hb.mono HB_1.out.size))
  have Ta_2 : Hid (w2.ownsRow w1.heap.size 76 2 (.slice (some ⟨gTa, 0, none⟩) na na) na (flat dsa)) := Lib.hid ho
  have TaL : Hid (∀ q, (Value.slice (some ⟨gTa, 0, none⟩) na na).ownBlock = some q → w1.heap.size ≤ q ∧ q < w2.heap.size) := Lib.hid (fun q hq => ho.lt q hq)
  clear ho hb pa_1 HB_1
  go_wp2_with fail
  refine (SPC.out _ _ _ _ (sd_of_own Ta_2.out HRa.out.ok) HNa.out).mono ?_
  rintro e w3 ⟨Aw, cw, rfl, ho, hb⟩
  have hs3 : w2.heap.size ≤ w3.heap.size := hb.size
  have pa_3 := keep1 hb pa_2
  have Ta_3 := Lib.hid (own_below Ta_2.out hb)
  have HB_3 : Hid (Below w.heap.size w w3) := Lib.hid (HB_2.out.trans (hb.mono HB_2.out.size))
  have Rw_3 : Hid (w3.ownsRow w2.heap.size 76 2 (.slice Aw ms.length cw) ms.length (flat ms)) := Lib.hid ho
  have RwL : Hid (∀ q, (Value.slice Aw ms.length cw).ownBlock = some q → w2.heap.size ≤ q ∧ q < w3.heap.size) := Lib.hid (fun q hq => ho.lt q hq)
  clear ho hb pa_2 Ta_2 HB_2
  obtain ⟨w4, hw⟩ : ∃ W : World, W = (w3.alloc (.cells #[.slice Aw ms.length cw, .int .i64 rb] 38)) := ⟨_, rfl⟩
  have hb : Below w3.heap.size w3 w4 := by rw [hw]; exact (Below.refl _ _).alloc (Nat.le_refl _) _
  have hs4 : w3.heap.size + 1 ≤ w4.heap.size := by rw [hw]; simp
  have pa_4 := keep1 hb pa_3
  have Ta_4 := Lib.hid (own_below Ta_3.out hb)
  have Rw_4 := Lib.hid (own_below Rw_3.out hb)
  have HB_4 : Hid (Below w.heap.size w w4) := Lib.hid (HB_3.out.trans (hb.mono HB_3.out.size))
  have cw_4 : w4.cell? ⟨w3.heap.size, 0, none⟩ = some (.slice Aw ms.length cw) := by rw [hw]; simp [go_sem]
  have cwb_4 : w4.cell? ⟨w3.heap.size, 1, none⟩ = some (.int .i64 rb) := by rw [hw]; simp [go_sem]
  have lf_pa : (w3.alloc (.cells #[.slice Aw ms.length cw, .int .i64 rb] 38)).cell? ⟨w.heap.size, 0, none⟩ = some (.slice Aa na ca) := by rw [← hw]; exact pa_4
  have lf_cw : (w3.alloc (.cells #[.slice Aw ms.length cw, .int .i64 rb] 38)).cell? ⟨w3.heap.size, 0, none⟩ = some (.slice Aw ms.length cw) := by rw [← hw]; exact cw_4
  have lf_cwb : (w3.alloc (.cells #[.slice Aw ms.length cw, .int .i64 rb] 38)).cell? ⟨w3.heap.size, 1, none⟩ = some (.int .i64 rb) := by rw [← hw]; exact cwb_4
  have HW4 : Hid ((w3.alloc (.cells #[.slice Aw ms.length cw, .int .i64 rb] 38)) = w4) := Lib.hid hw.symm
  clear hb hw pa_3 Ta_3 Rw_3 HB_3
  clear Ta_4
  go_wp2_with fail
  rw [HW4.out]
  clear lf_pa lf_cw lf_cwb
  refine (toEnum_any dsa Aa ca na _ ((HRa.out.below HB_4.out).call HB_4.out.size) HNa.out).mono ?_
  rintro e w5 ⟨gXa, rfl, ho, hb⟩
  have hs5 : w4.heap.size ≤ w5.heap.size := hb.size
  have pa_5 := keep1 hb pa_4
  have cw_5 := keep1 hb cw_4
  have cwb_5 := keep1 hb cwb_4
  have Rw_5 := Lib.hid (own_below Rw_4.out hb)
  have HB_5 : Hid (Below w.heap.size w w5) := Lib.hid (HB_4.out.trans (hb.mono HB_4.out.size))
  have Xa_5 : Hid (w5.ownsRow w4.heap.size 76 2 (.slice (some ⟨gXa, 0, none⟩) na na) na (flat dsa)) := Lib.hid ho
  have XaL : Hid (∀ q, (Value.slice (some ⟨gXa, 0, none⟩) na na).ownBlock = some q → w4.heap.size ≤ q ∧ q < w5.heap.size) := Lib.hid (fun q hq => ho.lt q hq)
  clear ho hb pa_4 cw_4 cwb_4 Rw_4 HB_4
  obtain ⟨w6, hw⟩ : ∃ W : World, W = (w5.alloc (.cells #[.slice (some ⟨gXa, 0, none⟩) na na] 30)) := ⟨_, rfl⟩
  have hb : Below w5.heap.size w5 w6 := by rw [hw]; exact (Below.refl _ _).alloc (Nat.le_refl _) _
  have hs6 : w5.heap.size + 1 ≤ w6.heap.size := by rw [hw]; simp
  have pa_6 := keep1 hb pa_5
  have cw_6 := keep1 hb cw_5
  have cwb_6 := keep1 hb cwb_5
  have Rw_6 := Lib.hid (own_below Rw_5.out hb)
  have Xa_6 := Lib.hid (own_below Xa_5.out hb)
  have HB_6 : Hid (Below w.heap.size w w6) := Lib.hid (HB_5.out.trans (hb.mono HB_5.out.size))
  have xa_6 : w6.cell? ⟨w5.heap.size, 0, none⟩ = some (.slice (some ⟨gXa, 0, none⟩) na na) := by rw [hw]; simp [go_sem]
  have lf_pa : (w5.alloc (.cells #[.slice (some ⟨gXa, 0, none⟩) na na] 30)).cell? ⟨w.heap.size, 0, none⟩ = some (.slice Aa na ca) := by rw [← hw]; exact pa_6
  have lf_cw : (w5.alloc (.cells #[.slice (some ⟨gXa, 0, none⟩) na na] 30)).cell? ⟨w3.heap.size, 0, none⟩ = some (.slice Aw ms.length cw) := by rw [← hw]; exact cw_6
  have lf_cwb : (w5.alloc (.cells #[.slice (some ⟨gXa, 0, none⟩) na na] 30)).cell? ⟨w3.heap.size, 1, none⟩ = some (.int .i64 rb) := by rw [← hw]; exact cwb_6
  have lf_xa : (w5.alloc (.cells #[.slice (some ⟨gXa, 0, none⟩) na na] 30)).cell? ⟨w5.heap.size, 0, none⟩ = some (.slice (some ⟨gXa, 0, none⟩) na na) := by rw [← hw]; exact xa_6
  have HW6 : Hid ((w5.alloc (.cells #[.slice (some ⟨gXa, 0, none⟩) na na] 30)) = w6) := Lib.hid hw.symm
  clear hb hw pa_5 cw_5 cwb_5 Rw_5 Xa_5 HB_5
  go_wp2_with fail
  rw [HW6.out]
  clear lf_pa lf_cw lf_cwb lf_xa
  refine (IMC.out _ _ _ _ (sd_of_own Xa_6.out HRa.out.ok) HNa.out).mono ?_
  rintro e w7 ⟨Ag, cg, rfl, ho, hb⟩
  have hs7 : w6.heap.size ≤ w7.heap.size := hb.size
  have pa_7 := keep1 hb pa_6
  have cw_7 := keep1 hb cw_6
  have cwb_7 := keep1 hb cwb_6
  have xa_7 := keep1 hb xa_6
  have Rw_7 := Lib.hid (own_below Rw_6.out hb)
  have Xa_7 := Lib.hid (own_below Xa_6.out hb)
  have HB_7 : Hid (Below w.heap.size w w7) := Lib.hid (HB_6.out.trans (hb.mono HB_6.out.size))
  have Rg_7 : Hid (w7.ownsRow w6.heap.size 76 2 (.slice Ag ms.length cg) ms.length (flat ms)) := Lib.hid ho
  have RgL : Hid (∀ q, (Value.slice Ag ms.length cg).ownBlock = some q → w6.heap.size ≤ q ∧ q < w7.heap.size) := Lib.hid (fun q hq => ho.lt q hq)
  clear ho hb pa_6 cw_6 cwb_6 xa_6 Rw_6 Xa_6 HB_6
  obtain ⟨w8, hw⟩ : ∃ W : World, W = (w7.alloc (.cells #[.slice Ag ms.length cg, .int .i64 rb] 38)) := ⟨_, rfl⟩
  have hb : Below w7.heap.size w7 w8 := by rw [hw]; exact (Below.refl _ _).alloc (Nat.le_refl _) _
  have hs8 : w7.heap.size + 1 ≤ w8.heap.size := by rw [hw]; simp
  have pa_8 := keep1 hb pa_7
  have cw_8 := keep1 hb cw_7
  have cwb_8 := keep1 hb cwb_7
  have xa_8 := keep1 hb xa_7
  have Rw_8 := Lib.hid (own_below Rw_7.out hb)
  have Xa_8 := Lib.hid (own_below Xa_7.out hb)
  have Rg_8 := Lib.hid (own_below Rg_7.out hb)
  have HB_8 : Hid (Below w.heap.size w w8) := Lib.hid (HB_7.out.trans (hb.mono HB_7.out.size))
  have cg_8 : w8.cell? ⟨w7.heap.size, 0, none⟩ = some (.slice Ag ms.length cg) := by rw [hw]; simp [go_sem]
  have cgb_8 : w8.cell? ⟨w7.heap.size, 1, none⟩ = some (.int .i64 rb) := by rw [hw]; simp [go_sem]
  have lf_pa : (w7.alloc (.cells #[.slice Ag ms.length cg, .int .i64 rb] 38)).cell? ⟨w.heap.size, 0, none⟩ = some (.slice Aa na ca) := by rw [← hw]; exact pa_8
  have lf_cw : (w7.alloc (.cells #[.slice Ag ms.length cg, .int .i64 rb] 38)).cell? ⟨w3.heap.size, 0, none⟩ = some (.slice Aw ms.length cw) := by rw [← hw]; exact cw_8
  have lf_cwb : (w7.alloc (.cells #[.slice Ag ms.length cg, .int .i64 rb] 38)).cell? ⟨w3.heap.size, 1, none⟩ = some (.int .i64 rb) := by rw [← hw]; exact cwb_8
  have lf_xa : (w7.alloc (.cells #[.slice Ag ms.length cg, .int .i64 rb] 38)).cell? ⟨w5.heap.size, 0, none⟩ = some (.slice (some ⟨gXa, 0, none⟩) na na) := by rw [← hw]; exact xa_8
  have lf_cg : (w7.alloc (.cells #[.slice Ag ms.length cg, .int .i64 rb] 38)).cell? ⟨w7.heap.size, 0, none⟩ = some (.slice Ag ms.length cg) := by rw [← hw]; exact cg_8
  have lf_cgb : (w7.alloc (.cells #[.slice Ag ms.length cg, .int .i64 rb] 38)).cell? ⟨w7.heap.size, 1, none⟩ = some (.int .i64 rb) := by rw [← hw]; exact cgb_8
  have HW8 : Hid ((w7.alloc (.cells #[.slice Ag ms.length cg, .int .i64 rb] 38)) = w8) := Lib.hid hw.symm
  clear hb hw pa_7 cw_7 cwb_7 xa_7 Rw_7 Xa_7 Rg_7 HB_7
  go_wp2_with fail
  rw [HW8.out]
  clear lf_pa lf_cw lf_cwb lf_xa lf_cg lf_cgb
  refine (eqFlag_any ms rb _ _ _ _ _ _ _ (sd_of_own Rg_8.out OKM.out) (sd_of_own Rw_8.out OKM.out)).mono ?_
  rintro e w9 ⟨rfl, hb⟩
  have hs9 : w8.heap.size ≤ w9.heap.size := hb.size
  have pa_9 := keep1 hb pa_8
  have cw_9 := keep1 hb cw_8
  have cwb_9 := keep1 hb cwb_8
  have xa_9 := keep1 hb xa_8
  have cg_9 := keep1 hb cg_8
  have cgb_9 := keep1 hb cgb_8
  have Rw_9 := Lib.hid (own_below Rw_8.out hb)
  have Xa_9 := Lib.hid (own_below Xa_8.out hb)
  have Rg_9 := Lib.hid (own_below Rg_8.out hb)
  have HB_9 : Hid (Below w.heap.size w w9) := Lib.hid (HB_8.out.trans (hb.mono HB_8.out.size))
  clear hb  pa_8 cw_8 cwb_8 xa_8 cg_8 cgb_8 Rw_8 Xa_8 Rg_8 HB_8
  go_wp2_with fail
  have hsd : Hid (SD w9 w9.heap.size Aa na ca dsa) := Lib.hid ((HRa.out.below HB_9.out).call HB_9.out.size)
  go_region_held3 (fun w' => w'.cell? ⟨w.heap.size, 0, none⟩ = some (.slice Aa na ca) ∧ w'.cell? ⟨w5.heap.size, 0, none⟩ = some (.slice (some ⟨gXa, 0, none⟩) na na))
    (first
      | go_keep
      | exact ⟨y0, y1⟩ | exact ⟨z0, z1⟩)
    (first
      | (go_at_call 15; refine (toEnum_any dsa Aa ca na _ (by first | exact hsd.out | exact hsd.out.drew | exact hsd.out.drewN _) HNa.out).mono ?_; rintro e w10 ⟨gt, rfl, ho, hb⟩; replace hb : Below w9.heap.size w9 w10 := (by first | exact hb | exact undrew hb); have y0 := keep1 hb pa_9; have y1 := keep1 hb xa_9)
      | (go_at_call 17; refine (eqEnum_any dsa _ _ _ _ _ _ _ (by first | exact sd_of_own (own_below Xa_9.out hb) HRa.out.ok | exact (sd_of_own (own_below Xa_9.out hb) HRa.out.ok).drew) (by first | exact sd_of_own ho HRa.out.ok | exact (sd_of_own ho HRa.out.ok).drew)).mono ?_; rintro e w11 ⟨rfl, hb2⟩; replace hb2 : Below w10.heap.size w10 w11 := (by first | exact hb2 | exact undrew hb2); have z0 := keep1 hb2 y0; have z1 := keep1 hb2 y1))
  have hb3 : Below w9.heap.size w9 w11 := hb.trans (hb2.mono hb.size)
  have hs11 : w9.heap.size ≤ w11.heap.size := hb3.size
  have pa_11 := keep1 hb3 pa_9
  have cw_11 := keep1 hb3 cw_9
  have cwb_11 := keep1 hb3 cwb_9
  have xa_11 := keep1 hb3 xa_9
  have cg_11 := keep1 hb3 cg_9
  have cgb_11 := keep1 hb3 cgb_9
  have Rw_11 := Lib.hid (own_below Rw_9.out hb3)
  have Xa_11 := Lib.hid (own_below Xa_9.out hb3)
  have Rg_11 := Lib.hid (own_below Rg_9.out hb3)
  have HB_11 : Hid (Below w.heap.size w w11) := Lib.hid (HB_9.out.trans (hb3.mono HB_9.out.size))
  clear hb hb2 hb3 ho y0 z0 y1 z1 hsd pa_9 cw_9 cwb_9 xa_9 cg_9 cgb_9 Rw_9 Xa_9 Rg_9 HB_9
  go_wp2_with fail
  refine (markEnum_any (1) _ _ _ _ _ _ Xa_11.out (by omega) (by have := HNa.out; omega)).mono ?_
  rintro e w12 ⟨rfl, ho, hg⟩
  have hs12 : w11.heap.size ≤ w12.heap.size := hg.size
  have pa_12 := hg.cell pa_11 (by first | exact fun h => XaN.out h.symm | exact fun h => by have := XaL.out _ h.symm; simp only at this; omega)
  have cw_12 := hg.cell cw_11 (by first | exact fun h => XaN.out h.symm | exact fun h => by have := XaL.out _ h.symm; simp only at this; omega)
  have cwb_12 := hg.cell cwb_11 (by first | exact fun h => XaN.out h.symm | exact fun h => by have := XaL.out _ h.symm; simp only at this; omega)
  have xa_12 := hg.cell xa_11 (by first | exact fun h => XaN.out h.symm | exact fun h => by have := XaL.out _ h.symm; simp only at this; omega)
  have cg_12 := hg.cell cg_11 (by first | exact fun h => XaN.out h.symm | exact fun h => by have := XaL.out _ h.symm; simp only at this; omega)
  have cgb_12 := hg.cell cgb_11 (by first | exact fun h => XaN.out h.symm | exact fun h => by have := XaL.out _ h.symm; simp only at this; omega)
  have Rw_12 := Lib.hid (Rw_11.out.kept hg (by
    cases h : (Value.slice Aw ms.length cw).ownBlock with
    | none => exact .inl rfl
    | some q => exact .inr (fun e => by have := RwL.out q h; have := XaL.out q e.symm; omega)))
  have Rg_12 := Lib.hid (Rg_11.out.kept hg (by
    cases h : (Value.slice Ag ms.length cg).ownBlock with
    | none => exact .inl rfl
    | some q => exact .inr (fun e => by have := RgL.out q h; have := XaL.out q e.symm; omega)))
  have HB_12 : Hid (Below w.heap.size w w12) := Lib.hid (HB_11.out.grown hg HB_11.out.size (fun q hq => by have := XaL.out q hq; omega))
  have Xa_12 := Lib.hid ho
  clear ho hg pa_11 cw_11 cwb_11 xa_11 cg_11 cgb_11 Rw_11 Xa_11 Rg_11 HB_11
  clear xa_12
  have hkk : ¬ (1 + 2 * (na : Int) < 0) := by omega
  go_wp2_with fail
  refine (eqFlag_any ms rb _ _ _ _ _ _ _ (sd_of_own Rg_12.out OKM.out) (sd_of_own Rw_12.out OKM.out)).mono ?_
  rintro e w13 ⟨rfl, hb⟩
  have hs13 : w12.heap.size ≤ w13.heap.size := hb.size
  have pa_13 := keep1 hb pa_12
  have cw_13 := keep1 hb cw_12
  have cwb_13 := keep1 hb cwb_12
  have cg_13 := keep1 hb cg_12
  have cgb_13 := keep1 hb cgb_12
  have Rw_13 := Lib.hid (own_below Rw_12.out hb)
  have Xa_13 := Lib.hid (own_below Xa_12.out hb)
  have Rg_13 := Lib.hid (own_below Rg_12.out hb)
  have HB_13 : Hid (Below w.heap.size w w13) := Lib.hid (HB_12.out.trans (hb.mono HB_12.out.size))
  clear hb  pa_12 cw_12 cwb_12 cg_12 cgb_12 Rw_12 Xa_12 Rg_12 HB_12
  go_wp2_with fail
  refine (markFlag_any 1 _ _ _ _ _ _ _ Rg_13.out (by omega) (by omega)).mono ?_
  rintro e w14 ⟨rfl, ho, hg⟩
  have hs14 : w13.heap.size ≤ w14.heap.size := hg.size
  have pa_14 := hg.cell pa_13 (by first | exact fun h => RgN.out h.symm | exact fun h => by have := RgL.out _ h.symm; simp only at this; omega)
  have cw_14 := hg.cell cw_13 (by first | exact fun h => RgN.out h.symm | exact fun h => by have := RgL.out _ h.symm; simp only at this; omega)
  have cwb_14 := hg.cell cwb_13 (by first | exact fun h => RgN.out h.symm | exact fun h => by have := RgL.out _ h.symm; simp only at this; omega)
  have cg_14 := hg.cell cg_13 (by first | exact fun h => RgN.out h.symm | exact fun h => by have := RgL.out _ h.symm; simp only at this; omega)
  have cgb_14 := hg.cell cgb_13 (by first | exact fun h => RgN.out h.symm | exact fun h => by have := RgL.out _ h.symm; simp only at this; omega)
  have Rw_14 := Lib.hid (Rw_13.out.kept hg (by
    cases h : (Value.slice Aw ms.length cw).ownBlock with
    | none => exact .inl rfl
    | some q => exact .inr (fun e => by have := RwL.out q h; have := RgL.out q e.symm; omega)))
  have Xa_14 := Lib.hid (Xa_13.out.kept hg (by
    cases h : (Value.slice (some ⟨gXa, 0, none⟩) na na).ownBlock with
    | none => exact .inl rfl
    | some q => exact .inr (fun e => by have := XaL.out q h; have := RgL.out q e.symm; omega)))
  have HB_14 : Hid (Below w.heap.size w w14) := Lib.hid (HB_13.out.grown hg HB_13.out.size (fun q hq => by have := RgL.out q hq; omega))
  have Rg_14 := Lib.hid ho
  clear ho hg pa_13 cw_13 cwb_13 cg_13 cgb_13 Rw_13 Xa_13 Rg_13 HB_13
  go_wp2_with fail
  refine (heldFlag_any 1 _ _ _ _ _ _ Rg_14.out (by omega) (by omega)).mono ?_
  rintro e w15 ⟨rfl, hb⟩
  have hs15 : w14.heap.size ≤ w15.heap.size := hb.size
  have pa_15 := keep1 hb pa_14
  have cw_15 := keep1 hb cw_14
  have cwb_15 := keep1 hb cwb_14
  have cg_15 := keep1 hb cg_14
  have cgb_15 := keep1 hb cgb_14
  have Rw_15 := Lib.hid (own_below Rw_14.out hb)
  have Xa_15 := Lib.hid (own_below Xa_14.out hb)
  have Rg_15 := Lib.hid (own_below Rg_14.out hb)
  have HB_15 : Hid (Below w.heap.size w w15) := Lib.hid (HB_14.out.trans (hb.mono HB_14.out.size))
  clear hb  pa_14 cw_14 cwb_14 cg_14 cgb_14 Rw_14 Xa_14 Rg_14 HB_14
  have hqq : ¬ (1 + 2 * (ms.length : Int) < 0) := by omega
  go_wp2_with fail
  refine (toEnum_any dsa Aa ca na _ ((HRa.out.below HB_15.out).call HB_15.out.size) HNa.out).mono ?_
  rintro e w16 ⟨gTa, rfl, ho, hb⟩
  have hs16 : w15.heap.size ≤ w16.heap.size := hb.size
  have pa_16 := keep1 hb pa_15
  have cw_16 := keep1 hb cw_15
  have cwb_16 := keep1 hb cwb_15
  have cg_16 := keep1 hb cg_15
  have cgb_16 := keep1 hb cgb_15
  have Rw_16 := Lib.hid (own_below Rw_15.out hb)
  have Xa_16 := Lib.hid (own_below Xa_15.out hb)
  have Rg_16 := Lib.hid (own_below Rg_15.out hb)
  have HB_16 : Hid (Below w.heap.size w w16) := Lib.hid (HB_15.out.trans (hb.mono HB_15.out.size))
  have Ta_16 : Hid (w16.ownsRow w15.heap.size 76 2 (.slice (some ⟨gTa, 0, none⟩) na na) na (flat dsa)) := Lib.hid ho
  have TaL : Hid (∀ q, (Value.slice (some ⟨gTa, 0, none⟩) na na).ownBlock = some q → w15.heap.size ≤ q ∧ q < w16.heap.size) := Lib.hid (fun q hq => ho.lt q hq)
  clear ho hb pa_15 cw_15 cwb_15 cg_15 cgb_15 Rw_15 Xa_15 Rg_15 HB_15
  go_wp2_with fail
  refine (IMC.out _ _ _ _ (sd_of_own Ta_16.out HRa.out.ok) HNa.out).mono ?_
  rintro e w17 ⟨Ah, ch, rfl, ho, hb⟩
  have hs17 : w16.heap.size ≤ w17.heap.size := hb.size
  have pa_17 := keep1 hb pa_16
  have cw_17 := keep1 hb cw_16
  have cwb_17 := keep1 hb cwb_16
  have cg_17 := keep1 hb cg_16
  have cgb_17 := keep1 hb cgb_16
  have Rw_17 := Lib.hid (own_below Rw_16.out hb)
  have Xa_17 := Lib.hid (own_below Xa_16.out hb)
  have Rg_17 := Lib.hid (own_below Rg_16.out hb)
  have Ta_17 := Lib.hid (own_below Ta_16.out hb)
  have HB_17 : Hid (Below w.heap.size w w17) := Lib.hid (HB_16.out.trans (hb.mono HB_16.out.size))
  have Rh_17 : Hid (w17.ownsRow w16.heap.size 76 2 (.slice Ah ms.length ch) ms.length (flat ms)) := Lib.hid ho
  have RhL : Hid (∀ q, (Value.slice Ah ms.length ch).ownBlock = some q → w16.heap.size ≤ q ∧ q < w17.heap.size) := Lib.hid (fun q hq => ho.lt q hq)
  clear ho hb pa_16 cw_16 cwb_16 cg_16 cgb_16 Rw_16 Xa_16 Rg_16 Ta_16 HB_16
  obtain ⟨w18, hw⟩ : ∃ W : World, W = (w17.alloc (.cells #[.slice Ah ms.length ch, .int .i64 rb] 38)) := ⟨_, rfl⟩
  have hb : Below w17.heap.size w17 w18 := by rw [hw]; exact (Below.refl _ _).alloc (Nat.le_refl _) _
  have hs18 : w17.heap.size + 1 ≤ w18.heap.size := by rw [hw]; simp
  have pa_18 := keep1 hb pa_17
  have cw_18 := keep1 hb cw_17
  have cwb_18 := keep1 hb cwb_17
  have cg_18 := keep1 hb cg_17
  have cgb_18 := keep1 hb cgb_17
  have Rw_18 := Lib.hid (own_below Rw_17.out hb)
  have Xa_18 := Lib.hid (own_below Xa_17.out hb)
  have Rg_18 := Lib.hid (own_below Rg_17.out hb)
  have Ta_18 := Lib.hid (own_below Ta_17.out hb)
  have Rh_18 := Lib.hid (own_below Rh_17.out hb)
  have HB_18 : Hid (Below w.heap.size w w18) := Lib.hid (HB_17.out.trans (hb.mono HB_17.out.size))
  have ch_18 : w18.cell? ⟨w17.heap.size, 0, none⟩ = some (.slice Ah ms.length ch) := by rw [hw]; simp [go_sem]
  have chb_18 : w18.cell? ⟨w17.heap.size, 1, none⟩ = some (.int .i64 rb) := by rw [hw]; simp [go_sem]
  have lf_pa : (w17.alloc (.cells #[.slice Ah ms.length ch, .int .i64 rb] 38)).cell? ⟨w.heap.size, 0, none⟩ = some (.slice Aa na ca) := by rw [← hw]; exact pa_18
  have lf_cw : (w17.alloc (.cells #[.slice Ah ms.length ch, .int .i64 rb] 38)).cell? ⟨w3.heap.size, 0, none⟩ = some (.slice Aw ms.length cw) := by rw [← hw]; exact cw_18
  have lf_cwb : (w17.alloc (.cells #[.slice Ah ms.length ch, .int .i64 rb] 38)).cell? ⟨w3.heap.size, 1, none⟩ = some (.int .i64 rb) := by rw [← hw]; exact cwb_18
  have lf_cg : (w17.alloc (.cells #[.slice Ah ms.length ch, .int .i64 rb] 38)).cell? ⟨w7.heap.size, 0, none⟩ = some (.slice Ag ms.length cg) := by rw [← hw]; exact cg_18
  have lf_cgb : (w17.alloc (.cells #[.slice Ah ms.length ch, .int .i64 rb] 38)).cell? ⟨w7.heap.size, 1, none⟩ = some (.int .i64 rb) := by rw [← hw]; exact cgb_18
  have lf_ch : (w17.alloc (.cells #[.slice Ah ms.length ch, .int .i64 rb] 38)).cell? ⟨w17.heap.size, 0, none⟩ = some (.slice Ah ms.length ch) := by rw [← hw]; exact ch_18
  have lf_chb : (w17.alloc (.cells #[.slice Ah ms.length ch, .int .i64 rb] 38)).cell? ⟨w17.heap.size, 1, none⟩ = some (.int .i64 rb) := by rw [← hw]; exact chb_18
  have HW18 : Hid ((w17.alloc (.cells #[.slice Ah ms.length ch, .int .i64 rb] 38)) = w18) := Lib.hid hw.symm
  clear hb hw pa_17 cw_17 cwb_17 cg_17 cgb_17 Rw_17 Xa_17 Rg_17 Ta_17 Rh_17 HB_17
  clear Ta_18
  go_wp2_with fail
  rw [HW18.out]
  clear lf_pa lf_cw lf_cwb lf_cg lf_cgb lf_ch lf_chb
  refine (eqFlag_any ms rb _ _ _ _ _ _ _ (sd_of_own Rh_18.out OKM.out) (sd_of_own Rw_18.out OKM.out)).mono ?_
  rintro e w19 ⟨rfl, hb⟩
  have hs19 : w18.heap.size ≤ w19.heap.size := hb.size
  have pa_19 := keep1 hb pa_18
  have cw_19 := keep1 hb cw_18
  have cwb_19 := keep1 hb cwb_18
  have cg_19 := keep1 hb cg_18
  have cgb_19 := keep1 hb cgb_18
  have ch_19 := keep1 hb ch_18
  have chb_19 := keep1 hb chb_18
  have Rw_19 := Lib.hid (own_below Rw_18.out hb)
  have Xa_19 := Lib.hid (own_below Xa_18.out hb)
  have Rg_19 := Lib.hid (own_below Rg_18.out hb)
  have Rh_19 := Lib.hid (own_below Rh_18.out hb)
  have HB_19 : Hid (Below w.heap.size w w19) := Lib.hid (HB_18.out.trans (hb.mono HB_18.out.size))
  clear hb  pa_18 cw_18 cwb_18 cg_18 cgb_18 ch_18 chb_18 Rw_18 Xa_18 Rg_18 Rh_18 HB_18
  go_wp2_with fail
  refine (heldFlag_any 1 _ _ _ _ _ _ Rg_19.out (by omega) (by omega)).mono ?_
  rintro e w20 ⟨rfl, hb⟩
  have hs20 : w19.heap.size ≤ w20.heap.size := hb.size
  have pa_20 := keep1 hb pa_19
  have cw_20 := keep1 hb cw_19
  have cwb_20 := keep1 hb cwb_19
  have cg_20 := keep1 hb cg_19
  have cgb_20 := keep1 hb cgb_19
  have ch_20 := keep1 hb ch_19
  have chb_20 := keep1 hb chb_19
  have Rw_20 := Lib.hid (own_below Rw_19.out hb)
  have Xa_20 := Lib.hid (own_below Xa_19.out hb)
  have Rg_20 := Lib.hid (own_below Rg_19.out hb)
  have Rh_20 := Lib.hid (own_below Rh_19.out hb)
  have HB_20 : Hid (Below w.heap.size w w20) := Lib.hid (HB_19.out.trans (hb.mono HB_19.out.size))
  clear hb  pa_19 cw_19 cwb_19 cg_19 cgb_19 ch_19 chb_19 Rw_19 Xa_19 Rg_19 Rh_19 HB_19
  go_wp2
  go_ret
  exact ⟨rfl, HB_20.out⟩

theorem walk (Aa : Option Addr) (na ca : Nat) (dsa : List D) (w : World) (hra : SD w w.heap.size Aa na ca dsa) :
    Calls Try.prog 6 #[.agg #[.slice Aa na ca]] w fun e w' => e = .returned (.bool true) ∧ Below w.heap.size w w' := by
  have hl := byR_len bitR dsa
  exact walkV Aa na ca dsa (mBits dsa) 0 w hra (Lib.hid fun A n c w h hn => specFlagOf_any dsa A n c w h) (Lib.hid fun A n c w h hn => implFlagOf_any dsa A n c w h) (Lib.hid (mBits_ok hra.ok)) (by have := mBits_len dsa; omega)

set_option maxRecDepth 100000 in
theorem lifted (os : Os) (started : os.Started) (H : Type) (enc : TypeId × Value → H) :
    ReturnsInHanded {} Try.checked os 6 .any (Rows.fnExactFlagOfSpec.pre6 enc Try.prog Try.f6 Rows.fnExactFlagOfRow.domain false) (Rows.fnExactFlagOfSpec.post enc Try.prog Try.f6 false true false false) := by
  refine returnsInHanded_of_change (C := Try.checked) own started (by kernel_rfl) Try.func6
    (ChangeSpec.witness6 (enc := enc) (C := Try.checked) false ⟨#[], #[.agg #[.slice none 0 0]], []⟩ 8 (by kernel_rfl) (by kernel_rfl) (by kernel_rfl) (by kernel_rfl)) ?_
  intro W base args ds gs before hval0 hW hcnd _
  have hval : ∀ (j : Nat) t v, Try.f6.params[j]? = some t → args[j]? = some v → Value.okWide Try.prog W .any base t v := hval0
  have hW' := hW
  obtain ⟨p, q, hA0, hV, rfl, hfz, hnd⟩ := hW
  have hA : DataW.TrodAll enc Try.prog W 0 (fun _ => true) true Try.f6.params.toList args.toList ds p := hA0
  rw [Try.params6] at hA hval
  obtain ⟨v0, vs0, d0, ds0, p0, q0, hargs, rfl, rfl, h0, r0⟩ := trodAll_cons hA
  obtain ⟨rfl, rfl, rfl⟩ := trodAll_nil r0
  obtain rfl : args = #[v0] := by cases args; simp_all
  obtain ⟨rfl, rfl⟩ := trodVars_none hV
  have k0 := h0
  have lt0 : ∀ x ∈ p0, x.block < W.heap.size := by obtain ⟨m, hm⟩ := k0; exact DataW.trod_lt m _ _ _ hm
  obtain ⟨A0, n0, c0, l0, rfl, w0⟩ := open_enum (hval 0 24 v0 rfl rfl) h0
  clear hA0 hval0
  refine (walk A0 n0 c0 l0 W w0).mono fun e W' ⟨he, bel⟩ => ?_
  subst he
  exact ⟨_, rfl, _, _, _, [], _, [], hW', trodAll_mk1 (shut_bool Try.underlying4 _), (trodAll_cons_mk (Below.trod laidOut (by kernel_rfl) (of_decide_eq_true (by kernel_rfl)) k0 bel lt0) trodAll_mk0), rfl, bel.frame _, fun h => by cases h⟩

theorem over : Rows.fnExactFlagOfRow.holds Try.pinned (OpenSpec.ofChange Rows.fnExactFlagOfSpec) :=
  OpenClaim.holds_of_wide 6 Try.f6 rfl rfl rfl rfl rfl rfl rfl ⟨rfl, rfl, rfl, rfl, rfl⟩ rfl rfl rfl rfl rfl (by kernel_rfl) Try.func6 (by kernel_rfl)
    (of_decide_eq_true (by kernel_rfl)) (by unfold Func.isWrapper; first | (rw [if_pos (by decide +kernel)]; kernel_rfl) | (rw [if_neg (by decide +kernel)]; exact ⟨rfl, rfl⟩))
    (fun os started H enc _ => lifted os started H enc)

theorem proved : Rows.FnExactFlagOfSaid := over
end Go.Proofs.Ythclogcbiekfeaa.fnExactFlagOf
