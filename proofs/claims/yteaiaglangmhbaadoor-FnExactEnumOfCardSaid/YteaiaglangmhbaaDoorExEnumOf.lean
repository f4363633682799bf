/-
For every class of flags the law on exact answers of EnumOf returns true: the program's EnumOf answers as its model does, and leaves its arguments as they were, and its answer owns its memory.
Conditions: none.
-/
import Derived.Test.YteaiaglangmhbaaDoorFlagX
import Derived.Deep.DeepCutAuto
import Derived.Test.YteaiaglangmhbaaDoorDoor
import Derived.Test.YteaiaglangmhbaaDoorEnuS
import Derived.Test.YteaiaglangmhbaaDoorEnuI
namespace Go.Proofs.YteaiaglangmhbaaDoor.fnExactEnumOf
open Go.ChangeShapes Go.WideShapes Go.ChangeAt Go.RowKit
open Go.ChangeMaps (open_string shut_string)
set_option linter.unusedVariables false
set_option maxRecDepth 100000

set_option maxHeartbeats 16000000 in
theorem walkV (Aa : Option Addr) (na ca : Nat) (dsa : List D) (ba : Int) (ms : List D) (w : World) (hra : SD w w.heap.size Aa na ca dsa)
    (SPC : Hid (∀ (Aa : Option Addr) (na ca : Nat) (w : World), SD w w.heap.size Aa na ca dsa → na ≤ 1048576 → Calls Tryd.prog 7 #[.agg #[.slice Aa na ca, .int .i64 ba]] w (EnumE ms w)))
    (IMC : Hid (∀ (Aa : Option Addr) (na ca : Nat) (w : World), SD w w.heap.size Aa na ca dsa → na ≤ 1048576 → TabAt w → 1 < w.heap.size → Calls Tryd.prog 9 #[.agg #[.slice Aa na ca, .int .i64 ba]] w (EnumE ms w))) (OKM : Hid (∀ d ∈ ms, d.ok)) (hml : ms.length ≤ 1000000) (hTAB : Hid (TabAt w)) (h1w : 1 < w.heap.size) :
    Calls Tryd.prog 3 #[.agg #[.slice Aa na ca, .int .i64 ba]] w fun e w' => e = .returned (.bool true) ∧ Below w.heap.size w w' := by
  obtain ⟨w0, hw⟩ : ∃ W : World, W = (w.alloc (.cells #[.slice Aa na ca, .int .i64 ba] 24)) := ⟨_, rfl⟩
  have hb : Below w.heap.size w w0 := by rw [hw]; exact ((Below.refl _ _).alloc (by first | exact Nat.le_refl _ | (simp; done) | (simp; omega)) _)
  have hs0 : w.heap.size + 1 ≤ w0.heap.size := by rw [hw]; simp
  have pa_0 : w0.cell? ⟨w.heap.size, 0, none⟩ = some (.slice Aa na ca) := by rw [hw]; simp [go_sem]
  have qa_0 : w0.cell? ⟨w.heap.size, 1, none⟩ = some (.int .i64 ba) := by rw [hw]; simp [go_sem]
  have HRa := Lib.hid hra
  clear hra
  have HB_0 := Lib.hid hb
  have HW0 : Hid ((w.alloc (.cells #[.slice Aa na ca, .int .i64 ba] 24)) = w0) := Lib.hid hw.symm
  clear hb hw
  go_enter Tryd.func3, Tryd.ntmps3
  go_wp2_with fail
  rw [HW0.out]
  refine (szFlag_any dsa ba Aa ca na 1048576 _ ((HRa.out.below HB_0.out).call HB_0.out.size) (by omega) (by omega)).mono ?_
  rintro e w1 ⟨ra, rfl, raa, rba, rca, hb⟩
  have hs1 : w0.heap.size ≤ w1.heap.size := hb.size
  have pa_1 := keep1 hb pa_0
  have qa_1 := keep1 hb qa_0
  have HB_1 : Hid (Below w.heap.size w w1) := Lib.hid (HB_0.out.trans (hb.mono HB_0.out.size))
  have HQa := Lib.hid rca
  clear hb rca pa_0 qa_0 HB_0
  by_cases hnega : ra < 0
  · go_wp2
    go_ret
    exact ⟨rfl, HB_1.out⟩
  have HNa : Hid (na ≤ 1048576) := Lib.hid (by have := HQa.out (by omega); omega)
  clear HQa
  go_wp2_with fail
  refine (toFlag_any dsa ba Aa ca na _ ((HRa.out.below HB_1.out).call HB_1.out.size) HNa.out).mono ?_
  rintro e w2 ⟨gTa, rfl, ho, hb⟩
  have hs2 : w1.heap.size ≤ w2.heap.size := hb.size
  have pa_2 := keep1 hb pa_1
  have qa_2 := keep1 hb qa_1
  have HB_2 : Hid (Below w.heap.size w w2) := Lib.hid (HB_1.out.trans (hb.mono HB_1.out.size))
  have Ta_2 : Hid (w2.ownsRow w1.heap.size 53 2 (.slice (some ⟨gTa, 0, none⟩) na na) na (flat dsa)) := Lib.hid ho
  have TaL : Hid (∀ q, (Value.slice (some ⟨gTa, 0, none⟩) na na).ownBlock = some q → w1.heap.size ≤ q ∧ q < w2.heap.size) := Lib.hid (fun q hq => ho.lt q hq)
  clear ho hb pa_1 qa_1 HB_1
  go_wp2_with fail
  refine (SPC.out _ _ _ _ (sd_of_own Ta_2.out HRa.out.ok) HNa.out).mono ?_
  rintro e w3 ⟨Aw, cw, rfl, ho, hb⟩
  have hs3 : w2.heap.size ≤ w3.heap.size := hb.size
  have pa_3 := keep1 hb pa_2
  have qa_3 := keep1 hb qa_2
  have Ta_3 := Lib.hid (own_below Ta_2.out hb)
  have HB_3 : Hid (Below w.heap.size w w3) := Lib.hid (HB_2.out.trans (hb.mono HB_2.out.size))
  have Rw_3 : Hid (w3.ownsRow w2.heap.size 53 2 (.slice Aw ms.length cw) ms.length (flat ms)) := Lib.hid ho
  have RwL : Hid (∀ q, (Value.slice Aw ms.length cw).ownBlock = some q → w2.heap.size ≤ q ∧ q < w3.heap.size) := Lib.hid (fun q hq => ho.lt q hq)
  clear ho hb pa_2 qa_2 Ta_2 HB_2
  obtain ⟨w4, hw⟩ : ∃ W : World, W = (w3.alloc (.cells #[.slice Aw ms.length cw] 28)) := ⟨_, rfl⟩
  have hb : Below w3.heap.size w3 w4 := by rw [hw]; exact (Below.refl _ _).alloc (Nat.le_refl _) _
  have hs4 : w3.heap.size + 1 ≤ w4.heap.size := by rw [hw]; simp
  have pa_4 := keep1 hb pa_3
  have qa_4 := keep1 hb qa_3
  have Ta_4 := Lib.hid (own_below Ta_3.out hb)
  have Rw_4 := Lib.hid (own_below Rw_3.out hb)
  have HB_4 : Hid (Below w.heap.size w w4) := Lib.hid (HB_3.out.trans (hb.mono HB_3.out.size))
  have cw_4 : w4.cell? ⟨w3.heap.size, 0, none⟩ = some (.slice Aw ms.length cw) := by rw [hw]; simp [go_sem]
  have lf_pa : (w3.alloc (.cells #[.slice Aw ms.length cw] 28)).cell? ⟨w.heap.size, 0, none⟩ = some (.slice Aa na ca) := by rw [← hw]; exact pa_4
  have lf_qa : (w3.alloc (.cells #[.slice Aw ms.length cw] 28)).cell? ⟨w.heap.size, 1, none⟩ = some (.int .i64 ba) := by rw [← hw]; exact qa_4
  have lf_cw : (w3.alloc (.cells #[.slice Aw ms.length cw] 28)).cell? ⟨w3.heap.size, 0, none⟩ = some (.slice Aw ms.length cw) := by rw [← hw]; exact cw_4
  have HW4 : Hid ((w3.alloc (.cells #[.slice Aw ms.length cw] 28)) = w4) := Lib.hid hw.symm
  clear hb hw pa_3 qa_3 Ta_3 Rw_3 HB_3
  clear Ta_4
  go_wp2_with fail
  rw [HW4.out]
  clear lf_pa lf_qa lf_cw
  refine (toFlag_any dsa ba Aa ca na _ ((HRa.out.below HB_4.out).call HB_4.out.size) HNa.out).mono ?_
  rintro e w5 ⟨gXa, rfl, ho, hb⟩
  have hs5 : w4.heap.size ≤ w5.heap.size := hb.size
  have pa_5 := keep1 hb pa_4
  have qa_5 := keep1 hb qa_4
  have cw_5 := keep1 hb cw_4
  have Rw_5 := Lib.hid (own_below Rw_4.out hb)
  have HB_5 : Hid (Below w.heap.size w w5) := Lib.hid (HB_4.out.trans (hb.mono HB_4.out.size))
  have Xa_5 : Hid (w5.ownsRow w4.heap.size 53 2 (.slice (some ⟨gXa, 0, none⟩) na na) na (flat dsa)) := Lib.hid ho
  have XaL : Hid (∀ q, (Value.slice (some ⟨gXa, 0, none⟩) na na).ownBlock = some q → w4.heap.size ≤ q ∧ q < w5.heap.size) := Lib.hid (fun q hq => ho.lt q hq)
  clear ho hb pa_4 qa_4 cw_4 Rw_4 HB_4
  obtain ⟨w6, hw⟩ : ∃ W : World, W = (w5.alloc (.cells #[.slice (some ⟨gXa, 0, none⟩) na na, .int .i64 ba] 31)) := ⟨_, rfl⟩
  have hb : Below w5.heap.size w5 w6 := by rw [hw]; exact (Below.refl _ _).alloc (Nat.le_refl _) _
  have hs6 : w5.heap.size + 1 ≤ w6.heap.size := by rw [hw]; simp
  have pa_6 := keep1 hb pa_5
  have qa_6 := keep1 hb qa_5
  have cw_6 := keep1 hb cw_5
  have Rw_6 := Lib.hid (own_below Rw_5.out hb)
  have Xa_6 := Lib.hid (own_below Xa_5.out hb)
  have HB_6 : Hid (Below w.heap.size w w6) := Lib.hid (HB_5.out.trans (hb.mono HB_5.out.size))
  have xa_6 : w6.cell? ⟨w5.heap.size, 0, none⟩ = some (.slice (some ⟨gXa, 0, none⟩) na na) := by rw [hw]; simp [go_sem]
  have xab_6 : w6.cell? ⟨w5.heap.size, 1, none⟩ = some (.int .i64 ba) := by rw [hw]; simp [go_sem]
  have lf_pa : (w5.alloc (.cells #[.slice (some ⟨gXa, 0, none⟩) na na, .int .i64 ba] 31)).cell? ⟨w.heap.size, 0, none⟩ = some (.slice Aa na ca) := by rw [← hw]; exact pa_6
  have lf_qa : (w5.alloc (.cells #[.slice (some ⟨gXa, 0, none⟩) na na, .int .i64 ba] 31)).cell? ⟨w.heap.size, 1, none⟩ = some (.int .i64 ba) := by rw [← hw]; exact qa_6
  have lf_cw : (w5.alloc (.cells #[.slice (some ⟨gXa, 0, none⟩) na na, .int .i64 ba] 31)).cell? ⟨w3.heap.size, 0, none⟩ = some (.slice Aw ms.length cw) := by rw [← hw]; exact cw_6
  have lf_xa : (w5.alloc (.cells #[.slice (some ⟨gXa, 0, none⟩) na na, .int .i64 ba] 31)).cell? ⟨w5.heap.size, 0, none⟩ = some (.slice (some ⟨gXa, 0, none⟩) na na) := by rw [← hw]; exact xa_6
  have lf_xab : (w5.alloc (.cells #[.slice (some ⟨gXa, 0, none⟩) na na, .int .i64 ba] 31)).cell? ⟨w5.heap.size, 1, none⟩ = some (.int .i64 ba) := by rw [← hw]; exact xab_6
  have HW6 : Hid ((w5.alloc (.cells #[.slice (some ⟨gXa, 0, none⟩) na na, .int .i64 ba] 31)) = w6) := Lib.hid hw.symm
  clear hb hw pa_5 qa_5 cw_5 Rw_5 Xa_5 HB_5
  go_wp2_with fail
  rw [HW6.out]
  clear lf_pa lf_qa lf_cw lf_xa lf_xab
  refine (IMC.out _ _ _ _ (sd_of_own Xa_6.out HRa.out.ok) HNa.out (hTAB.out.below HB_6.out h1w) (Nat.lt_of_lt_of_le h1w HB_6.out.size)).mono ?_
  rintro e w7 ⟨Ag, cg, rfl, ho, hb⟩
  have hs7 : w6.heap.size ≤ w7.heap.size := hb.size
  have pa_7 := keep1 hb pa_6
  have qa_7 := keep1 hb qa_6
  have cw_7 := keep1 hb cw_6
  have xa_7 := keep1 hb xa_6
  have xab_7 := keep1 hb xab_6
  have Rw_7 := Lib.hid (own_below Rw_6.out hb)
  have Xa_7 := Lib.hid (own_below Xa_6.out hb)
  have HB_7 : Hid (Below w.heap.size w w7) := Lib.hid (HB_6.out.trans (hb.mono HB_6.out.size))
  have Rg_7 : Hid (w7.ownsRow w6.heap.size 53 2 (.slice Ag ms.length cg) ms.length (flat ms)) := Lib.hid ho
  have RgL : Hid (∀ q, (Value.slice Ag ms.length cg).ownBlock = some q → w6.heap.size ≤ q ∧ q < w7.heap.size) := Lib.hid (fun q hq => ho.lt q hq)
  clear ho hb pa_6 qa_6 cw_6 xa_6 xab_6 Rw_6 Xa_6 HB_6
  obtain ⟨w8, hw⟩ : ∃ W : World, W = (w7.alloc (.cells #[.slice Ag ms.length cg] 28)) := ⟨_, rfl⟩
  have hb : Below w7.heap.size w7 w8 := by rw [hw]; exact (Below.refl _ _).alloc (Nat.le_refl _) _
  have hs8 : w7.heap.size + 1 ≤ w8.heap.size := by rw [hw]; simp
  have pa_8 := keep1 hb pa_7
  have qa_8 := keep1 hb qa_7
  have cw_8 := keep1 hb cw_7
  have xa_8 := keep1 hb xa_7
  have xab_8 := keep1 hb xab_7
  have Rw_8 := Lib.hid (own_below Rw_7.out hb)
  have Xa_8 := Lib.hid (own_below Xa_7.out hb)
  have Rg_8 := Lib.hid (own_below Rg_7.out hb)
  have HB_8 : Hid (Below w.heap.size w w8) := Lib.hid (HB_7.out.trans (hb.mono HB_7.out.size))
  have cg_8 : w8.cell? ⟨w7.heap.size, 0, none⟩ = some (.slice Ag ms.length cg) := by rw [hw]; simp [go_sem]
  have lf_pa : (w7.alloc (.cells #[.slice Ag ms.length cg] 28)).cell? ⟨w.heap.size, 0, none⟩ = some (.slice Aa na ca) := by rw [← hw]; exact pa_8
  have lf_qa : (w7.alloc (.cells #[.slice Ag ms.length cg] 28)).cell? ⟨w.heap.size, 1, none⟩ = some (.int .i64 ba) := by rw [← hw]; exact qa_8
  have lf_cw : (w7.alloc (.cells #[.slice Ag ms.length cg] 28)).cell? ⟨w3.heap.size, 0, none⟩ = some (.slice Aw ms.length cw) := by rw [← hw]; exact cw_8
  have lf_xa : (w7.alloc (.cells #[.slice Ag ms.length cg] 28)).cell? ⟨w5.heap.size, 0, none⟩ = some (.slice (some ⟨gXa, 0, none⟩) na na) := by rw [← hw]; exact xa_8
  have lf_xab : (w7.alloc (.cells #[.slice Ag ms.length cg] 28)).cell? ⟨w5.heap.size, 1, none⟩ = some (.int .i64 ba) := by rw [← hw]; exact xab_8
  have lf_cg : (w7.alloc (.cells #[.slice Ag ms.length cg] 28)).cell? ⟨w7.heap.size, 0, none⟩ = some (.slice Ag ms.length cg) := by rw [← hw]; exact cg_8
  have HW8 : Hid ((w7.alloc (.cells #[.slice Ag ms.length cg] 28)) = w8) := Lib.hid hw.symm
  clear hb hw pa_7 qa_7 cw_7 xa_7 xab_7 Rw_7 Xa_7 Rg_7 HB_7
  go_wp2_with fail
  rw [HW8.out]
  clear lf_pa lf_qa lf_cw lf_xa lf_xab lf_cg
  refine (eqEnum_any ms _ _ _ _ _ _ _ (sd_of_own Rg_8.out OKM.out) (sd_of_own Rw_8.out OKM.out)).mono ?_
  rintro e w9 ⟨rfl, hb⟩
  have hs9 : w8.heap.size ≤ w9.heap.size := hb.size
  have pa_9 := keep1 hb pa_8
  have qa_9 := keep1 hb qa_8
  have cw_9 := keep1 hb cw_8
  have xa_9 := keep1 hb xa_8
  have xab_9 := keep1 hb xab_8
  have cg_9 := keep1 hb cg_8
  have Rw_9 := Lib.hid (own_below Rw_8.out hb)
  have Xa_9 := Lib.hid (own_below Xa_8.out hb)
  have Rg_9 := Lib.hid (own_below Rg_8.out hb)
  have HB_9 : Hid (Below w.heap.size w w9) := Lib.hid (HB_8.out.trans (hb.mono HB_8.out.size))
  clear hb  pa_8 qa_8 cw_8 xa_8 xab_8 cg_8 Rw_8 Xa_8 Rg_8 HB_8
  go_wp2_with fail
  have hsd : Hid (SD w9 w9.heap.size Aa na ca dsa) := Lib.hid ((HRa.out.below HB_9.out).call HB_9.out.size)
  go_region_held3 (fun w' => w'.cell? ⟨w.heap.size, 0, none⟩ = some (.slice Aa na ca) ∧ w'.cell? ⟨w.heap.size, 1, none⟩ = some (.int .i64 ba) ∧ w'.cell? ⟨w5.heap.size, 0, none⟩ = some (.slice (some ⟨gXa, 0, none⟩) na na) ∧ w'.cell? ⟨w5.heap.size, 1, none⟩ = some (.int .i64 ba))
    (first
      | go_keep
      | exact ⟨y0, y1, y2, y3⟩ | exact ⟨z0, z1, z2, z3⟩)
    (first
      | (go_at_call 8; refine (toFlag_any dsa ba Aa ca na _ (by first | exact hsd.out | exact hsd.out.drew | exact hsd.out.drewN _) HNa.out).mono ?_; rintro e w10 ⟨gt, rfl, ho, hb⟩; replace hb : Below w9.heap.size w9 w10 := (by first | exact hb | exact undrew hb); have y0 := keep1 hb pa_9; have y1 := keep1 hb qa_9; have y2 := keep1 hb xa_9; have y3 := keep1 hb xab_9)
      | (go_at_call 11; refine (eqFlag_any dsa ba _ _ _ _ _ _ _ (by first | exact sd_of_own (own_below Xa_9.out hb) HRa.out.ok | exact (sd_of_own (own_below Xa_9.out hb) HRa.out.ok).drew) (by first | exact sd_of_own ho HRa.out.ok | exact (sd_of_own ho HRa.out.ok).drew)).mono ?_; rintro e w11 ⟨rfl, hb2⟩; replace hb2 : Below w10.heap.size w10 w11 := (by first | exact hb2 | exact undrew hb2); have z0 := keep1 hb2 y0; have z1 := keep1 hb2 y1; have z2 := keep1 hb2 y2; have z3 := keep1 hb2 y3))
  have hb3 : Below w9.heap.size w9 w11 := hb.trans (hb2.mono hb.size)
  have hs11 : w9.heap.size ≤ w11.heap.size := hb3.size
  have pa_11 := keep1 hb3 pa_9
  have qa_11 := keep1 hb3 qa_9
  have cw_11 := keep1 hb3 cw_9
  have xa_11 := keep1 hb3 xa_9
  have xab_11 := keep1 hb3 xab_9
  have cg_11 := keep1 hb3 cg_9
  have Rw_11 := Lib.hid (own_below Rw_9.out hb3)
  have Xa_11 := Lib.hid (own_below Xa_9.out hb3)
  have Rg_11 := Lib.hid (own_below Rg_9.out hb3)
  have HB_11 : Hid (Below w.heap.size w w11) := Lib.hid (HB_9.out.trans (hb3.mono HB_9.out.size))
  clear hb hb2 hb3 ho y0 z0 y1 z1 y2 z2 y3 z3 hsd pa_9 qa_9 cw_9 xa_9 xab_9 cg_9 Rw_9 Xa_9 Rg_9 HB_9
  go_wp2_with fail
  refine (markFlag_any (1) _ _ _ _ _ _ _ Xa_11.out (by omega) (by have := HNa.out; omega)).mono ?_
  rintro e w12 ⟨rfl, ho, hg⟩
  have hs12 : w11.heap.size ≤ w12.heap.size := hg.size
  have pa_12 := hg.cell pa_11 (by first | exact fun h => XaN.out h.symm | exact fun h => by have := XaL.out _ h.symm; simp only at this; omega)
  have qa_12 := hg.cell qa_11 (by first | exact fun h => XaN.out h.symm | exact fun h => by have := XaL.out _ h.symm; simp only at this; omega)
  have cw_12 := hg.cell cw_11 (by first | exact fun h => XaN.out h.symm | exact fun h => by have := XaL.out _ h.symm; simp only at this; omega)
  have xa_12 := hg.cell xa_11 (by first | exact fun h => XaN.out h.symm | exact fun h => by have := XaL.out _ h.symm; simp only at this; omega)
  have xab_12 := hg.cell xab_11 (by first | exact fun h => XaN.out h.symm | exact fun h => by have := XaL.out _ h.symm; simp only at this; omega)
  have cg_12 := hg.cell cg_11 (by first | exact fun h => XaN.out h.symm | exact fun h => by have := XaL.out _ h.symm; simp only at this; omega)
  have Rw_12 := Lib.hid (Rw_11.out.kept hg (by
    cases h : (Value.slice Aw ms.length cw).ownBlock with
    | none => exact .inl rfl
    | some q => exact .inr (fun e => by have := RwL.out q h; have := XaL.out q e.symm; omega)))
  have Rg_12 := Lib.hid (Rg_11.out.kept hg (by
    cases h : (Value.slice Ag ms.length cg).ownBlock with
    | none => exact .inl rfl
    | some q => exact .inr (fun e => by have := RgL.out q h; have := XaL.out q e.symm; omega)))
  have HB_12 : Hid (Below w.heap.size w w12) := Lib.hid (HB_11.out.grown hg HB_11.out.size (fun q hq => by have := XaL.out q hq; omega))
  have Xa_12 := Lib.hid ho
  clear ho hg pa_11 qa_11 cw_11 xa_11 xab_11 cg_11 Rw_11 Xa_11 Rg_11 HB_11
  clear xa_12
  clear xab_12
  have hkk : ¬ (1 + 2 * (na : Int) < 0) := by omega
  go_wp2_with fail
  refine (eqEnum_any ms _ _ _ _ _ _ _ (sd_of_own Rg_12.out OKM.out) (sd_of_own Rw_12.out OKM.out)).mono ?_
  rintro e w13 ⟨rfl, hb⟩
  have hs13 : w12.heap.size ≤ w13.heap.size := hb.size
  have pa_13 := keep1 hb pa_12
  have qa_13 := keep1 hb qa_12
  have cw_13 := keep1 hb cw_12
  have cg_13 := keep1 hb cg_12
  have Rw_13 := Lib.hid (own_below Rw_12.out hb)
  have Xa_13 := Lib.hid (own_below Xa_12.out hb)
  have Rg_13 := Lib.hid (own_below Rg_12.out hb)
  have HB_13 : Hid (Below w.heap.size w w13) := Lib.hid (HB_12.out.trans (hb.mono HB_12.out.size))
  clear hb  pa_12 qa_12 cw_12 cg_12 Rw_12 Xa_12 Rg_12 HB_12
  go_wp2_with fail
  refine (markEnum_any 1 _ _ _ _ _ _ Rg_13.out (by omega) (by omega)).mono ?_
  rintro e w14 ⟨rfl, ho, hg⟩
  have hs14 : w13.heap.size ≤ w14.heap.size := hg.size
  have pa_14 := hg.cell pa_13 (by first | exact fun h => RgN.out h.symm | exact fun h => by have := RgL.out _ h.symm; simp only at this; omega)
  have qa_14 := hg.cell qa_13 (by first | exact fun h => RgN.out h.symm | exact fun h => by have := RgL.out _ h.symm; simp only at this; omega)
  have cw_14 := hg.cell cw_13 (by first | exact fun h => RgN.out h.symm | exact fun h => by have := RgL.out _ h.symm; simp only at this; omega)
  have cg_14 := hg.cell cg_13 (by first | exact fun h => RgN.out h.symm | exact fun h => by have := RgL.out _ h.symm; simp only at this; omega)
  have Rw_14 := Lib.hid (Rw_13.out.kept hg (by
    cases h : (Value.slice Aw ms.length cw).ownBlock with
    | none => exact .inl rfl
    | some q => exact .inr (fun e => by have := RwL.out q h; have := RgL.out q e.symm; omega)))
  have Xa_14 := Lib.hid (Xa_13.out.kept hg (by
    cases h : (Value.slice (some ⟨gXa, 0, none⟩) na na).ownBlock with
    | none => exact .inl rfl
    | some q => exact .inr (fun e => by have := XaL.out q h; have := RgL.out q e.symm; omega)))
  have HB_14 : Hid (Below w.heap.size w w14) := Lib.hid (HB_13.out.grown hg HB_13.out.size (fun q hq => by have := RgL.out q hq; omega))
  have Rg_14 := Lib.hid ho
  clear ho hg pa_13 qa_13 cw_13 cg_13 Rw_13 Xa_13 Rg_13 HB_13
  go_wp2_with fail
  refine (heldEnum_any 1 _ _ _ _ _ Rg_14.out (by omega) (by omega)).mono ?_
  rintro e w15 ⟨rfl, hb⟩
  have hs15 : w14.heap.size ≤ w15.heap.size := hb.size
  have pa_15 := keep1 hb pa_14
  have qa_15 := keep1 hb qa_14
  have cw_15 := keep1 hb cw_14
  have cg_15 := keep1 hb cg_14
  have Rw_15 := Lib.hid (own_below Rw_14.out hb)
  have Xa_15 := Lib.hid (own_below Xa_14.out hb)
  have Rg_15 := Lib.hid (own_below Rg_14.out hb)
  have HB_15 : Hid (Below w.heap.size w w15) := Lib.hid (HB_14.out.trans (hb.mono HB_14.out.size))
  clear hb  pa_14 qa_14 cw_14 cg_14 Rw_14 Xa_14 Rg_14 HB_14
  have hqq : ¬ (1 + 2 * (ms.length : Int) < 0) := by omega
  go_wp2_with fail
  refine (toFlag_any dsa ba Aa ca na _ ((HRa.out.below HB_15.out).call HB_15.out.size) HNa.out).mono ?_
  rintro e w16 ⟨gTa, rfl, ho, hb⟩
  have hs16 : w15.heap.size ≤ w16.heap.size := hb.size
  have pa_16 := keep1 hb pa_15
  have qa_16 := keep1 hb qa_15
  have cw_16 := keep1 hb cw_15
  have cg_16 := keep1 hb cg_15
  have Rw_16 := Lib.hid (own_below Rw_15.out hb)
  have Xa_16 := Lib.hid (own_below Xa_15.out hb)
  have Rg_16 := Lib.hid (own_below Rg_15.out hb)
  have HB_16 : Hid (Below w.heap.size w w16) := Lib.hid (HB_15.out.trans (hb.mono HB_15.out.size))
  have Ta_16 : Hid (w16.ownsRow w15.heap.size 53 2 (.slice (some ⟨gTa, 0, none⟩) na na) na (flat dsa)) := Lib.hid ho
  have TaL : Hid (∀ q, (Value.slice (some ⟨gTa, 0, none⟩) na na).ownBlock = some q → w15.heap.size ≤ q ∧ q < w16.heap.size) := Lib.hid (fun q hq => ho.lt q hq)
  clear ho hb pa_15 qa_15 cw_15 cg_15 Rw_15 Xa_15 Rg_15 HB_15
  go_wp2_with fail
  refine (IMC.out _ _ _ _ (sd_of_own Ta_16.out HRa.out.ok) HNa.out (hTAB.out.below HB_16.out h1w) (Nat.lt_of_lt_of_le h1w HB_16.out.size)).mono ?_
  rintro e w17 ⟨Ah, ch, rfl, ho, hb⟩
  have hs17 : w16.heap.size ≤ w17.heap.size := hb.size
  have pa_17 := keep1 hb pa_16
  have qa_17 := keep1 hb qa_16
  have cw_17 := keep1 hb cw_16
  have cg_17 := keep1 hb cg_16
  have Rw_17 := Lib.hid (own_below Rw_16.out hb)
  have Xa_17 := Lib.hid (own_below Xa_16.out hb)
  have Rg_17 := Lib.hid (own_below Rg_16.out hb)
  have Ta_17 := Lib.hid (own_below Ta_16.out hb)
  have HB_17 : Hid (Below w.heap.size w w17) := Lib.hid (HB_16.out.trans (hb.mono HB_16.out.size))
  have Rh_17 : Hid (w17.ownsRow w16.heap.size 53 2 (.slice Ah ms.length ch) ms.length (flat ms)) := Lib.hid ho
  have RhL : Hid (∀ q, (Value.slice Ah ms.length ch).ownBlock = some q → w16.heap.size ≤ q ∧ q < w17.heap.size) := Lib.hid (fun q hq => ho.lt q hq)
  clear ho hb pa_16 qa_16 cw_16 cg_16 Rw_16 Xa_16 Rg_16 Ta_16 HB_16
  obtain ⟨w18, hw⟩ : ∃ W : World, W = (w17.alloc (.cells #[.slice Ah ms.length ch] 28)) := ⟨_, rfl⟩
  have hb : Below w17.heap.size w17 w18 := by rw [hw]; exact (Below.refl _ _).alloc (Nat.le_refl _) _
  have hs18 : w17.heap.size + 1 ≤ w18.heap.size := by rw [hw]; simp
  have pa_18 := keep1 hb pa_17
  have qa_18 := keep1 hb qa_17
  have cw_18 := keep1 hb cw_17
  have cg_18 := keep1 hb cg_17
  have Rw_18 := Lib.hid (own_below Rw_17.out hb)
  have Xa_18 := Lib.hid (own_below Xa_17.out hb)
  have Rg_18 := Lib.hid (own_below Rg_17.out hb)
  have Ta_18 := Lib.hid (own_below Ta_17.out hb)
  have Rh_18 := Lib.hid (own_below Rh_17.out hb)
  have HB_18 : Hid (Below w.heap.size w w18) := Lib.hid (HB_17.out.trans (hb.mono HB_17.out.size))
  have ch_18 : w18.cell? ⟨w17.heap.size, 0, none⟩ = some (.slice Ah ms.length ch) := by rw [hw]; simp [go_sem]
  have lf_pa : (w17.alloc (.cells #[.slice Ah ms.length ch] 28)).cell? ⟨w.heap.size, 0, none⟩ = some (.slice Aa na ca) := by rw [← hw]; exact pa_18
  have lf_qa : (w17.alloc (.cells #[.slice Ah ms.length ch] 28)).cell? ⟨w.heap.size, 1, none⟩ = some (.int .i64 ba) := by rw [← hw]; exact qa_18
  have lf_cw : (w17.alloc (.cells #[.slice Ah ms.length ch] 28)).cell? ⟨w3.heap.size, 0, none⟩ = some (.slice Aw ms.length cw) := by rw [← hw]; exact cw_18
  have lf_cg : (w17.alloc (.cells #[.slice Ah ms.length ch] 28)).cell? ⟨w7.heap.size, 0, none⟩ = some (.slice Ag ms.length cg) := by rw [← hw]; exact cg_18
  have lf_ch : (w17.alloc (.cells #[.slice Ah ms.length ch] 28)).cell? ⟨w17.heap.size, 0, none⟩ = some (.slice Ah ms.length ch) := by rw [← hw]; exact ch_18
  have HW18 : Hid ((w17.alloc (.cells #[.slice Ah ms.length ch] 28)) = w18) := Lib.hid hw.symm
  clear hb hw pa_17 qa_17 cw_17 cg_17 Rw_17 Xa_17 Rg_17 Ta_17 Rh_17 HB_17
  clear Ta_18
  go_wp2_with fail
  rw [HW18.out]
  clear lf_pa lf_qa lf_cw lf_cg lf_ch
  refine (eqEnum_any ms _ _ _ _ _ _ _ (sd_of_own Rh_18.out OKM.out) (sd_of_own Rw_18.out OKM.out)).mono ?_
  rintro e w19 ⟨rfl, hb⟩
  have hs19 : w18.heap.size ≤ w19.heap.size := hb.size
  have pa_19 := keep1 hb pa_18
  have qa_19 := keep1 hb qa_18
  have cw_19 := keep1 hb cw_18
  have cg_19 := keep1 hb cg_18
  have ch_19 := keep1 hb ch_18
  have Rw_19 := Lib.hid (own_below Rw_18.out hb)
  have Xa_19 := Lib.hid (own_below Xa_18.out hb)
  have Rg_19 := Lib.hid (own_below Rg_18.out hb)
  have Rh_19 := Lib.hid (own_below Rh_18.out hb)
  have HB_19 : Hid (Below w.heap.size w w19) := Lib.hid (HB_18.out.trans (hb.mono HB_18.out.size))
  clear hb  pa_18 qa_18 cw_18 cg_18 ch_18 Rw_18 Xa_18 Rg_18 Rh_18 HB_18
  go_wp2_with fail
  refine (heldEnum_any 1 _ _ _ _ _ Rg_19.out (by omega) (by omega)).mono ?_
  rintro e w20 ⟨rfl, hb⟩
  have hs20 : w19.heap.size ≤ w20.heap.size := hb.size
  have pa_20 := keep1 hb pa_19
  have qa_20 := keep1 hb qa_19
  have cw_20 := keep1 hb cw_19
  have cg_20 := keep1 hb cg_19
  have ch_20 := keep1 hb ch_19
  have Rw_20 := Lib.hid (own_below Rw_19.out hb)
  have Xa_20 := Lib.hid (own_below Xa_19.out hb)
  have Rg_20 := Lib.hid (own_below Rg_19.out hb)
  have Rh_20 := Lib.hid (own_below Rh_19.out hb)
  have HB_20 : Hid (Below w.heap.size w w20) := Lib.hid (HB_19.out.trans (hb.mono HB_19.out.size))
  clear hb  pa_19 qa_19 cw_19 cg_19 ch_19 Rw_19 Xa_19 Rg_19 Rh_19 HB_19
  go_wp2
  go_ret
  exact ⟨rfl, HB_20.out⟩

theorem walk (Aa : Option Addr) (na ca : Nat) (dsa : List D) (ba : Int) (w : World) (hra : SD w w.heap.size Aa na ca dsa) (hba : -9223372036854775808 ≤ ba ∧ ba ≤ 9223372036854775807) (hT : TabAt w) :
    Calls Tryd.prog 3 #[.agg #[.slice Aa na ca, .int .i64 ba]] w fun e w' => e = .returned (.bool true) ∧ Below w.heap.size w w' := by
  have hl := mEnum_len dsa ba
  exact walkV Aa na ca dsa ba (mEnum dsa ba) w hra (Lib.hid fun A n c w h hn => specEnum_any dsa ba A n c w h hn) (Lib.hid fun A n c w h hn hT h1 => implEnum_any dsa ba A n c w h hn hT h1) (Lib.hid (mEnum_ok hra.ok)) (by omega) (Lib.hid hT) hT.size

set_option maxRecDepth 100000 in
theorem lifted (os : Os) (started : os.Started) (H : Type) (enc : TypeId × Value → H) :
    ReturnsInHanded {} Tryd.checked os 3 .any (fun w args => (Rows.fnExactEnumOfSpec.pre enc Tryd.prog Tryd.f3 [] false w args ∧ laidMetH Tryd.prog laidL w) ∧ sizedMet enc Tryd.prog Tryd.f3 (OpenSpec.ofChange Rows.fnExactEnumOfSpec) false w args) (Rows.fnExactEnumOfSpec.post enc Tryd.prog Tryd.f3 false true false false) := by
  refine returnsInHanded_of_change_and (C := Tryd.checked) (X := fun w _ => laidMetH Tryd.prog laidL w) (fun _ _ _ hh h => h.of_heap hh) own started (by kernel_rfl) Tryd.func3
    (ChangeSpec.witness_shaped (enc := enc) (C := Tryd.checked) (os := os) (X := fun w _ => laidMetH Tryd.prog laidL w) false (World.doorLaid Tryd.prog 400 os) #[.agg #[.slice none 0 0, .int .i64 0]] 8 rfl (World.shaped_of_RefB (by kernel_rfl) (by kernel_rfl)) (by kernel_rfl) (by kernel_rfl) (by kernel_rfl) (door_met os _)) ?_
  intro W base args ds gs before hval0 hW hcnd _ hL _
  have hval : ∀ (j : Nat) t v, Tryd.f3.params[j]? = some t → args[j]? = some v → Value.okWide Tryd.prog W .any base t v := hval0
  have hW' := hW
  obtain ⟨p, q, hA0, hV, rfl, hfz, hnd⟩ := hW
  have hA : DataW.TrodAll enc Tryd.prog W 0 (fun _ => true) true Tryd.f3.params.toList args.toList ds p := hA0
  rw [Tryd.params3] at hA hval
  obtain ⟨v0, vs0, d0, ds0, p0, q0, hargs, rfl, rfl, h0, r0⟩ := trodAll_cons hA
  obtain ⟨rfl, rfl, rfl⟩ := trodAll_nil r0
  obtain rfl : args = #[v0] := by cases args; simp_all
  obtain ⟨rfl, rfl⟩ := trodVars_none hV
  have k0 := h0
  have lt0 : ∀ x ∈ p0, x.block < W.heap.size := by obtain ⟨m, hm⟩ := k0; exact DataW.trod_lt m _ _ _ hm
  obtain ⟨A0, n0, c0, l0, b0, rfl, w0, wb0⟩ := open_flag (hval 0 24 v0 rfl rfl) h0
  clear hA0 hval0
  refine (walk A0 n0 c0 l0 b0 W w0 wb0 (tab_of_laid hL)).mono fun e W' ⟨he, bel⟩ => ?_
  subst he
  exact ⟨_, rfl, _, _, _, [], _, [], hW', trodAll_mk1 (shut_bool Tryd.underlying4 _), (trodAll_cons_mk (Below.trod laidOut (by kernel_rfl) (of_decide_eq_true (by kernel_rfl)) k0 bel lt0) trodAll_mk0), rfl, bel.frame _, fun h => by cases h⟩

theorem over : Rows.fnExactEnumOfRow.holds Tryd.pinned (OpenSpec.ofChange Rows.fnExactEnumOfSpec) :=
  OpenClaim.holds_of_wide 3 Tryd.f3 rfl rfl rfl rfl rfl rfl rfl ⟨rfl, rfl, rfl, rfl, rfl⟩ rfl rfl rfl rfl rfl (by kernel_rfl) Tryd.func3 (by kernel_rfl)
    (of_decide_eq_true (by kernel_rfl)) (by unfold Func.isWrapper; first | (rw [if_pos (by decide +kernel)]; kernel_rfl) | (rw [if_neg (by decide +kernel)]; exact ⟨rfl, rfl⟩))
    (fun os started H enc _ => lifted os started H enc)

theorem proved : Rows.FnExactEnumOfCardSaid :=
  Claim7.holds_tied_plain_at .later [] laidK true _ false
    over (fun _ h => by cases h) (by kernel_rfl) (fun _ h => by cases h) fnExactEnumOf_row_tie rfl ⟨rfl, rfl⟩ (by kernel_rfl) rfl
    (fun f fn hf hfn => by
      obtain rfl : f = 3 := (Option.some.inj ((show Tryd.prog.funcNamed "loop.example/namedflags/laws.FnExactEnumOf" = some 3 by kernel_rfl).symm.trans hf)).symm
      obtain rfl : fn = Tryd.f3 := (Option.some.inj (Tryd.func3.symm.trans hfn)).symm
      exact ⟨by kernel_rfl, fun j t ht => by
        have hm := Array.mem_of_getElem? ht
        have hall : (List.all (Array.toList Tryd.f3.params) fun u => !Tryd.prog.wantsStandIn u) = true := by kernel_rfl
        exact (show Tryd.prog.wantsStandIn t = false by simpa using List.all_eq_true.1 hall t (by simpa using hm))⟩)
    (by kernel_rfl)
end Go.Proofs.YteaiaglangmhbaaDoor.fnExactEnumOf
