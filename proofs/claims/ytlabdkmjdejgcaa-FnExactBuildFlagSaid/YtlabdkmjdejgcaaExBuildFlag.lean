/-
For all items and every bound the law on exact answers of BuildFlag returns true: the program's BuildFlag answers as its model does, and leaves its arguments as they were, and its answer owns its memory.
Conditions: none.
-/
import Derived.Test.YtlabdkmjdejgcaaFlagX
import Derived.Deep.DeepCutAuto
import Derived.Test.YtlabdkmjdejgcaaBldG
import Derived.Test.YtlabdkmjdejgcaaBldH
import Derived.Test.YtlabdkmjdejgcaaItemsC
import Derived.Test.YtlabdkmjdejgcaaOpenI
namespace Go.Proofs.Ytlabdkmjdejgcaa.fnExactBuildFlag
open Go.ChangeShapes Go.WideShapes Go.ChangeAt Go.RowKit
open Go.ChangeMaps (open_string shut_string)
set_option linter.unusedVariables false
set_option maxRecDepth 100000

set_option maxHeartbeats 16000000 in
theorem walkV (Aa : Option Addr) (na ca : Nat) (ssa : List It) (zb : Int) (ms : List D) (rb : Int) (ok : Bool) (w : World) (hra : ST w w.heap.size Aa na ca ssa)
    (SPC : Hid (∀ (Aa : Option Addr) (na ca : Nat) (w : World), ST w w.heap.size Aa na ca ssa → na ≤ 1048576 → Calls Try.prog 22 #[.slice Aa na ca, .int .i64 zb] w (FlagR ms rb ok w)))
    (IMC : Hid (∀ (Aa : Option Addr) (na ca : Nat) (w : World), ST w w.heap.size Aa na ca ssa → na ≤ 1048576 → Calls Try.prog 24 #[.slice Aa na ca, .int .i64 zb] w (FlagR ms rb ok w))) (OKM : Hid (∀ d ∈ ms, d.ok)) (hml : ms.length ≤ 1000000) :
    Calls Try.prog 6 #[.slice Aa na ca, .int .i64 zb] w fun e w' => e = .returned (.bool true) ∧ Below w.heap.size w w' := by
  have hb : Below w.heap.size w w := Below.refl _ _
  have HRa := Lib.hid hra
  clear hra
  have HB_0 := Lib.hid hb
  clear hb
  go_enter Try.func6, Try.ntmps6
  go_wp2_with fail
  refine (szItemS_any ssa Aa ca na 1048576 _ ((HRa.out.below HB_0.out).call HB_0.out.size) (by omega) (by omega)).mono ?_
  rintro e w1 ⟨ra, rfl, raa, rba, rca, hb⟩
  have hs1 : w.heap.size ≤ w1.heap.size := hb.size
  have HB_1 : Hid (Below w.heap.size w w1) := Lib.hid (HB_0.out.trans (hb.mono HB_0.out.size))
  have HQa := Lib.hid rca
  clear hb rca HB_0
  by_cases hnega : ra < 0
  · go_wp2
    go_ret
    exact ⟨rfl, HB_1.out⟩
  have HNa : Hid (na ≤ 1048576) := Lib.hid (by have := HQa.out (by omega); omega)
  clear HQa
  go_wp2_with fail
  refine (toItemS_any ssa Aa ca na _ ((HRa.out.below HB_1.out).call HB_1.out.size) HNa.out).mono ?_
  rintro e w2 ⟨gTa, rfl, ho, hb⟩
  have hs2 : w1.heap.size ≤ w2.heap.size := hb.size
  have HB_2 : Hid (Below w.heap.size w w2) := Lib.hid (HB_1.out.trans (hb.mono HB_1.out.size))
  have Ta_2 : Hid (w2.ownsRow w1.heap.size 86 3 (.slice (some ⟨gTa, 0, none⟩) na na) na (flatT ssa)) := Lib.hid ho
  have TaL : Hid (∀ q, (Value.slice (some ⟨gTa, 0, none⟩) na na).ownBlock = some q → w1.heap.size ≤ q ∧ q < w2.heap.size) := Lib.hid (fun q hq => ho.lt q hq)
  clear ho hb HB_1
  go_wp2_with fail
  refine (SPC.out _ _ _ _ (st_of_own Ta_2.out HRa.out.ok) HNa.out).mono ?_
  rintro e w3 ⟨Aw, cw, rfl, ho, hb⟩
  have hs3 : w2.heap.size ≤ w3.heap.size := hb.size
  have Ta_3 := Lib.hid (own_below Ta_2.out hb)
  have HB_3 : Hid (Below w.heap.size w w3) := Lib.hid (HB_2.out.trans (hb.mono HB_2.out.size))
  have Rw_3 : Hid (w3.ownsRow w2.heap.size 67 2 (.slice Aw ms.length cw) ms.length (flat ms)) := Lib.hid ho
  have RwL : Hid (∀ q, (Value.slice Aw ms.length cw).ownBlock = some q → w2.heap.size ≤ q ∧ q < w3.heap.size) := Lib.hid (fun q hq => ho.lt q hq)
  clear ho hb Ta_2 HB_2
  obtain ⟨w4, hw⟩ : ∃ W : World, W = (w3.alloc (.cells #[.slice Aw ms.length cw, .int .i64 rb] 30)) := ⟨_, rfl⟩
  have hb : Below w3.heap.size w3 w4 := by rw [hw]; exact (Below.refl _ _).alloc (Nat.le_refl _) _
  have hs4 : w3.heap.size + 1 ≤ w4.heap.size := by rw [hw]; simp
  have Ta_4 := Lib.hid (own_below Ta_3.out hb)
  have Rw_4 := Lib.hid (own_below Rw_3.out hb)
  have HB_4 : Hid (Below w.heap.size w w4) := Lib.hid (HB_3.out.trans (hb.mono HB_3.out.size))
  have cw_4 : w4.cell? ⟨w3.heap.size, 0, none⟩ = some (.slice Aw ms.length cw) := by rw [hw]; simp [go_sem]
  have cwb_4 : w4.cell? ⟨w3.heap.size, 1, none⟩ = some (.int .i64 rb) := by rw [hw]; simp [go_sem]
  have lf_cw : (w3.alloc (.cells #[.slice Aw ms.length cw, .int .i64 rb] 30)).cell? ⟨w3.heap.size, 0, none⟩ = some (.slice Aw ms.length cw) := by rw [← hw]; exact cw_4
  have lf_cwb : (w3.alloc (.cells #[.slice Aw ms.length cw, .int .i64 rb] 30)).cell? ⟨w3.heap.size, 1, none⟩ = some (.int .i64 rb) := by rw [← hw]; exact cwb_4
  have HW4 : Hid ((w3.alloc (.cells #[.slice Aw ms.length cw, .int .i64 rb] 30)) = w4) := Lib.hid hw.symm
  clear hb hw Ta_3 Rw_3 HB_3
  clear Ta_4
  go_wp2_with fail
  rw [HW4.out]
  clear lf_cw lf_cwb
  refine (toItemS_any ssa Aa ca na _ ((HRa.out.below HB_4.out).call HB_4.out.size) HNa.out).mono ?_
  rintro e w5 ⟨gXa, rfl, ho, hb⟩
  have hs5 : w4.heap.size ≤ w5.heap.size := hb.size
  have cw_5 := keep1 hb cw_4
  have cwb_5 := keep1 hb cwb_4
  have Rw_5 := Lib.hid (own_below Rw_4.out hb)
  have HB_5 : Hid (Below w.heap.size w w5) := Lib.hid (HB_4.out.trans (hb.mono HB_4.out.size))
  have Xa_5 : Hid (w5.ownsRow w4.heap.size 86 3 (.slice (some ⟨gXa, 0, none⟩) na na) na (flatT ssa)) := Lib.hid ho
  have XaL : Hid (∀ q, (Value.slice (some ⟨gXa, 0, none⟩) na na).ownBlock = some q → w4.heap.size ≤ q ∧ q < w5.heap.size) := Lib.hid (fun q hq => ho.lt q hq)
  clear ho hb cw_4 cwb_4 Rw_4 HB_4
  go_wp2_with fail
  refine (IMC.out _ _ _ _ (st_of_own Xa_5.out HRa.out.ok) HNa.out).mono ?_
  rintro e w6 ⟨Ag, cg, rfl, ho, hb⟩
  have hs6 : w5.heap.size ≤ w6.heap.size := hb.size
  have cw_6 := keep1 hb cw_5
  have cwb_6 := keep1 hb cwb_5
  have Rw_6 := Lib.hid (own_below Rw_5.out hb)
  have Xa_6 := Lib.hid (own_below Xa_5.out hb)
  have HB_6 : Hid (Below w.heap.size w w6) := Lib.hid (HB_5.out.trans (hb.mono HB_5.out.size))
  have Rg_6 : Hid (w6.ownsRow w5.heap.size 67 2 (.slice Ag ms.length cg) ms.length (flat ms)) := Lib.hid ho
  have RgL : Hid (∀ q, (Value.slice Ag ms.length cg).ownBlock = some q → w5.heap.size ≤ q ∧ q < w6.heap.size) := Lib.hid (fun q hq => ho.lt q hq)
  clear ho hb cw_5 cwb_5 Rw_5 Xa_5 HB_5
  obtain ⟨w7, hw⟩ : ∃ W : World, W = (w6.alloc (.cells #[.slice Ag ms.length cg, .int .i64 rb] 30)) := ⟨_, rfl⟩
  have hb : Below w6.heap.size w6 w7 := by rw [hw]; exact (Below.refl _ _).alloc (Nat.le_refl _) _
  have hs7 : w6.heap.size + 1 ≤ w7.heap.size := by rw [hw]; simp
  have cw_7 := keep1 hb cw_6
  have cwb_7 := keep1 hb cwb_6
  have Rw_7 := Lib.hid (own_below Rw_6.out hb)
  have Xa_7 := Lib.hid (own_below Xa_6.out hb)
  have Rg_7 := Lib.hid (own_below Rg_6.out hb)
  have HB_7 : Hid (Below w.heap.size w w7) := Lib.hid (HB_6.out.trans (hb.mono HB_6.out.size))
  have cg_7 : w7.cell? ⟨w6.heap.size, 0, none⟩ = some (.slice Ag ms.length cg) := by rw [hw]; simp [go_sem]
  have cgb_7 : w7.cell? ⟨w6.heap.size, 1, none⟩ = some (.int .i64 rb) := by rw [hw]; simp [go_sem]
  have lf_cw : (w6.alloc (.cells #[.slice Ag ms.length cg, .int .i64 rb] 30)).cell? ⟨w3.heap.size, 0, none⟩ = some (.slice Aw ms.length cw) := by rw [← hw]; exact cw_7
  have lf_cwb : (w6.alloc (.cells #[.slice Ag ms.length cg, .int .i64 rb] 30)).cell? ⟨w3.heap.size, 1, none⟩ = some (.int .i64 rb) := by rw [← hw]; exact cwb_7
  have lf_cg : (w6.alloc (.cells #[.slice Ag ms.length cg, .int .i64 rb] 30)).cell? ⟨w6.heap.size, 0, none⟩ = some (.slice Ag ms.length cg) := by rw [← hw]; exact cg_7
  have lf_cgb : (w6.alloc (.cells #[.slice Ag ms.length cg, .int .i64 rb] 30)).cell? ⟨w6.heap.size, 1, none⟩ = some (.int .i64 rb) := by rw [← hw]; exact cgb_7
  have HW7 : Hid ((w6.alloc (.cells #[.slice Ag ms.length cg, .int .i64 rb] 30)) = w7) := Lib.hid hw.symm
  clear hb hw cw_6 cwb_6 Rw_6 Xa_6 Rg_6 HB_6
  go_wp2_with fail
  rw [HW7.out]
  clear lf_cw lf_cwb lf_cg lf_cgb
  refine (eqFlag_any ms rb _ _ _ _ _ _ _ (sd_of_own Rg_7.out OKM.out) (sd_of_own Rw_7.out OKM.out)).mono ?_
  rintro e w8 ⟨rfl, hb⟩
  have hs8 : w7.heap.size ≤ w8.heap.size := hb.size
  have cw_8 := keep1 hb cw_7
  have cwb_8 := keep1 hb cwb_7
  have cg_8 := keep1 hb cg_7
  have cgb_8 := keep1 hb cgb_7
  have Rw_8 := Lib.hid (own_below Rw_7.out hb)
  have Xa_8 := Lib.hid (own_below Xa_7.out hb)
  have Rg_8 := Lib.hid (own_below Rg_7.out hb)
  have HB_8 : Hid (Below w.heap.size w w8) := Lib.hid (HB_7.out.trans (hb.mono HB_7.out.size))
  clear hb  cw_7 cwb_7 cg_7 cgb_7 Rw_7 Xa_7 Rg_7 HB_7
  go_wp2_with fail
  refine (toItemS_any ssa Aa ca na _ ((HRa.out.below HB_8.out).call HB_8.out.size) HNa.out).mono ?_
  rintro e w9 ⟨gVa, rfl, ho, hb⟩
  have hs9 : w8.heap.size ≤ w9.heap.size := hb.size
  have cw_9 := keep1 hb cw_8
  have cwb_9 := keep1 hb cwb_8
  have cg_9 := keep1 hb cg_8
  have cgb_9 := keep1 hb cgb_8
  have Rw_9 := Lib.hid (own_below Rw_8.out hb)
  have Xa_9 := Lib.hid (own_below Xa_8.out hb)
  have Rg_9 := Lib.hid (own_below Rg_8.out hb)
  have HB_9 : Hid (Below w.heap.size w w9) := Lib.hid (HB_8.out.trans (hb.mono HB_8.out.size))
  have Va_9 : Hid (w9.ownsRow w8.heap.size 86 3 (.slice (some ⟨gVa, 0, none⟩) na na) na (flatT ssa)) := Lib.hid ho
  have VaL : Hid (∀ q, (Value.slice (some ⟨gVa, 0, none⟩) na na).ownBlock = some q → w8.heap.size ≤ q ∧ q < w9.heap.size) := Lib.hid (fun q hq => ho.lt q hq)
  clear ho hb cw_8 cwb_8 cg_8 cgb_8 Rw_8 Xa_8 Rg_8 HB_8
  go_wp2_with fail
  refine (eqItemS_any ssa _ _ _ _ _ _ _ (st_of_own Xa_9.out HRa.out.ok) (st_of_own Va_9.out HRa.out.ok)).mono ?_
  rintro e w10 ⟨rfl, hb⟩
  have hs10 : w9.heap.size ≤ w10.heap.size := hb.size
  have cw_10 := keep1 hb cw_9
  have cwb_10 := keep1 hb cwb_9
  have cg_10 := keep1 hb cg_9
  have cgb_10 := keep1 hb cgb_9
  have Rw_10 := Lib.hid (own_below Rw_9.out hb)
  have Xa_10 := Lib.hid (own_below Xa_9.out hb)
  have Rg_10 := Lib.hid (own_below Rg_9.out hb)
  have Va_10 := Lib.hid (own_below Va_9.out hb)
  have HB_10 : Hid (Below w.heap.size w w10) := Lib.hid (HB_9.out.trans (hb.mono HB_9.out.size))
  clear hb  cw_9 cwb_9 cg_9 cgb_9 Rw_9 Xa_9 Rg_9 Va_9 HB_9
  clear Va_10
  go_wp2_with fail
  refine (markItemS_any (1) _ _ _ _ _ _ Xa_10.out (by omega) (by have := HNa.out; omega)).mono ?_
  rintro e w11 ⟨rfl, ⟨ys, ho⟩, hg⟩
  have hs11 : w10.heap.size ≤ w11.heap.size := hg.size
  have cw_11 := hg.cell cw_10 (by first | exact fun h => XaN.out h.symm | exact fun h => by have := XaL.out _ h.symm; simp only at this; omega)
  have cwb_11 := hg.cell cwb_10 (by first | exact fun h => XaN.out h.symm | exact fun h => by have := XaL.out _ h.symm; simp only at this; omega)
  have cg_11 := hg.cell cg_10 (by first | exact fun h => XaN.out h.symm | exact fun h => by have := XaL.out _ h.symm; simp only at this; omega)
  have cgb_11 := hg.cell cgb_10 (by first | exact fun h => XaN.out h.symm | exact fun h => by have := XaL.out _ h.symm; simp only at this; omega)
  have Rw_11 := Lib.hid (Rw_10.out.kept hg (by
    cases h : (Value.slice Aw ms.length cw).ownBlock with
    | none => exact .inl rfl
    | some q => exact .inr (fun e => by have := RwL.out q h; have := XaL.out q e.symm; omega)))
  have Rg_11 := Lib.hid (Rg_10.out.kept hg (by
    cases h : (Value.slice Ag ms.length cg).ownBlock with
    | none => exact .inl rfl
    | some q => exact .inr (fun e => by have := RgL.out q h; have := XaL.out q e.symm; omega)))
  have HB_11 : Hid (Below w.heap.size w w11) := Lib.hid (HB_10.out.grown hg HB_10.out.size (fun q hq => by have := XaL.out q hq; omega))
  have Xa_11 := Lib.hid ho
  clear ho hg cw_10 cwb_10 cg_10 cgb_10 Rw_10 Xa_10 Rg_10 HB_10
  have hkk : ¬ (1 + 3 * (na : Int) < 0) := by omega
  go_wp2_with fail
  refine (eqFlag_any ms rb _ _ _ _ _ _ _ (sd_of_own Rg_11.out OKM.out) (sd_of_own Rw_11.out OKM.out)).mono ?_
  rintro e w12 ⟨rfl, hb⟩
  have hs12 : w11.heap.size ≤ w12.heap.size := hb.size
  have cw_12 := keep1 hb cw_11
  have cwb_12 := keep1 hb cwb_11
  have cg_12 := keep1 hb cg_11
  have cgb_12 := keep1 hb cgb_11
  have Rw_12 := Lib.hid (own_below Rw_11.out hb)
  have Xa_12 := Lib.hid (own_below Xa_11.out hb)
  have Rg_12 := Lib.hid (own_below Rg_11.out hb)
  have HB_12 : Hid (Below w.heap.size w w12) := Lib.hid (HB_11.out.trans (hb.mono HB_11.out.size))
  clear hb  cw_11 cwb_11 cg_11 cgb_11 Rw_11 Xa_11 Rg_11 HB_11
  go_wp2_with fail
  refine (markFlag_any 1 _ _ _ _ _ _ _ Rg_12.out (by omega) (by omega)).mono ?_
  rintro e w13 ⟨rfl, ho, hg⟩
  have hs13 : w12.heap.size ≤ w13.heap.size := hg.size
  have cw_13 := hg.cell cw_12 (by first | exact fun h => RgN.out h.symm | exact fun h => by have := RgL.out _ h.symm; simp only at this; omega)
  have cwb_13 := hg.cell cwb_12 (by first | exact fun h => RgN.out h.symm | exact fun h => by have := RgL.out _ h.symm; simp only at this; omega)
  have cg_13 := hg.cell cg_12 (by first | exact fun h => RgN.out h.symm | exact fun h => by have := RgL.out _ h.symm; simp only at this; omega)
  have cgb_13 := hg.cell cgb_12 (by first | exact fun h => RgN.out h.symm | exact fun h => by have := RgL.out _ h.symm; simp only at this; omega)
  have Rw_13 := Lib.hid (Rw_12.out.kept hg (by
    cases h : (Value.slice Aw ms.length cw).ownBlock with
    | none => exact .inl rfl
    | some q => exact .inr (fun e => by have := RwL.out q h; have := RgL.out q e.symm; omega)))
  have Xa_13 := Lib.hid (Xa_12.out.kept hg (by
    cases h : (Value.slice (some ⟨gXa, 0, none⟩) na na).ownBlock with
    | none => exact .inl rfl
    | some q => exact .inr (fun e => by have := XaL.out q h; have := RgL.out q e.symm; omega)))
  have HB_13 : Hid (Below w.heap.size w w13) := Lib.hid (HB_12.out.grown hg HB_12.out.size (fun q hq => by have := RgL.out q hq; omega))
  have Rg_13 := Lib.hid ho
  clear ho hg cw_12 cwb_12 cg_12 cgb_12 Rw_12 Xa_12 Rg_12 HB_12
  go_wp2_with fail
  refine (heldFlag_any 1 _ _ _ _ _ _ Rg_13.out (by omega) (by omega)).mono ?_
  rintro e w14 ⟨rfl, hb⟩
  have hs14 : w13.heap.size ≤ w14.heap.size := hb.size
  have cw_14 := keep1 hb cw_13
  have cwb_14 := keep1 hb cwb_13
  have cg_14 := keep1 hb cg_13
  have cgb_14 := keep1 hb cgb_13
  have Rw_14 := Lib.hid (own_below Rw_13.out hb)
  have Xa_14 := Lib.hid (own_below Xa_13.out hb)
  have Rg_14 := Lib.hid (own_below Rg_13.out hb)
  have HB_14 : Hid (Below w.heap.size w w14) := Lib.hid (HB_13.out.trans (hb.mono HB_13.out.size))
  clear hb  cw_13 cwb_13 cg_13 cgb_13 Rw_13 Xa_13 Rg_13 HB_13
  have hqq : ¬ (1 + 2 * (ms.length : Int) < 0) := by omega
  go_wp2_with fail
  refine (toItemS_any ssa Aa ca na _ ((HRa.out.below HB_14.out).call HB_14.out.size) HNa.out).mono ?_
  rintro e w15 ⟨gTa, rfl, ho, hb⟩
  have hs15 : w14.heap.size ≤ w15.heap.size := hb.size
  have cw_15 := keep1 hb cw_14
  have cwb_15 := keep1 hb cwb_14
  have cg_15 := keep1 hb cg_14
  have cgb_15 := keep1 hb cgb_14
  have Rw_15 := Lib.hid (own_below Rw_14.out hb)
  have Xa_15 := Lib.hid (own_below Xa_14.out hb)
  have Rg_15 := Lib.hid (own_below Rg_14.out hb)
  have HB_15 : Hid (Below w.heap.size w w15) := Lib.hid (HB_14.out.trans (hb.mono HB_14.out.size))
  have Ta_15 : Hid (w15.ownsRow w14.heap.size 86 3 (.slice (some ⟨gTa, 0, none⟩) na na) na (flatT ssa)) := Lib.hid ho
  have TaL : Hid (∀ q, (Value.slice (some ⟨gTa, 0, none⟩) na na).ownBlock = some q → w14.heap.size ≤ q ∧ q < w15.heap.size) := Lib.hid (fun q hq => ho.lt q hq)
  clear ho hb cw_14 cwb_14 cg_14 cgb_14 Rw_14 Xa_14 Rg_14 HB_14
  go_wp2_with fail
  refine (IMC.out _ _ _ _ (st_of_own Ta_15.out HRa.out.ok) HNa.out).mono ?_
  rintro e w16 ⟨Ah, ch, rfl, ho, hb⟩
  have hs16 : w15.heap.size ≤ w16.heap.size := hb.size
  have cw_16 := keep1 hb cw_15
  have cwb_16 := keep1 hb cwb_15
  have cg_16 := keep1 hb cg_15
  have cgb_16 := keep1 hb cgb_15
  have Rw_16 := Lib.hid (own_below Rw_15.out hb)
  have Xa_16 := Lib.hid (own_below Xa_15.out hb)
  have Rg_16 := Lib.hid (own_below Rg_15.out hb)
  have Ta_16 := Lib.hid (own_below Ta_15.out hb)
  have HB_16 : Hid (Below w.heap.size w w16) := Lib.hid (HB_15.out.trans (hb.mono HB_15.out.size))
  have Rh_16 : Hid (w16.ownsRow w15.heap.size 67 2 (.slice Ah ms.length ch) ms.length (flat ms)) := Lib.hid ho
  have RhL : Hid (∀ q, (Value.slice Ah ms.length ch).ownBlock = some q → w15.heap.size ≤ q ∧ q < w16.heap.size) := Lib.hid (fun q hq => ho.lt q hq)
  clear ho hb cw_15 cwb_15 cg_15 cgb_15 Rw_15 Xa_15 Rg_15 Ta_15 HB_15
  obtain ⟨w17, hw⟩ : ∃ W : World, W = (w16.alloc (.cells #[.slice Ah ms.length ch, .int .i64 rb] 30)) := ⟨_, rfl⟩
  have hb : Below w16.heap.size w16 w17 := by rw [hw]; exact (Below.refl _ _).alloc (Nat.le_refl _) _
  have hs17 : w16.heap.size + 1 ≤ w17.heap.size := by rw [hw]; simp
  have cw_17 := keep1 hb cw_16
  have cwb_17 := keep1 hb cwb_16
  have cg_17 := keep1 hb cg_16
  have cgb_17 := keep1 hb cgb_16
  have Rw_17 := Lib.hid (own_below Rw_16.out hb)
  have Xa_17 := Lib.hid (own_below Xa_16.out hb)
  have Rg_17 := Lib.hid (own_below Rg_16.out hb)
  have Ta_17 := Lib.hid (own_below Ta_16.out hb)
  have Rh_17 := Lib.hid (own_below Rh_16.out hb)
  have HB_17 : Hid (Below w.heap.size w w17) := Lib.hid (HB_16.out.trans (hb.mono HB_16.out.size))
  have ch_17 : w17.cell? ⟨w16.heap.size, 0, none⟩ = some (.slice Ah ms.length ch) := by rw [hw]; simp [go_sem]
  have chb_17 : w17.cell? ⟨w16.heap.size, 1, none⟩ = some (.int .i64 rb) := by rw [hw]; simp [go_sem]
  have lf_cw : (w16.alloc (.cells #[.slice Ah ms.length ch, .int .i64 rb] 30)).cell? ⟨w3.heap.size, 0, none⟩ = some (.slice Aw ms.length cw) := by rw [← hw]; exact cw_17
  have lf_cwb : (w16.alloc (.cells #[.slice Ah ms.length ch, .int .i64 rb] 30)).cell? ⟨w3.heap.size, 1, none⟩ = some (.int .i64 rb) := by rw [← hw]; exact cwb_17
  have lf_cg : (w16.alloc (.cells #[.slice Ah ms.length ch, .int .i64 rb] 30)).cell? ⟨w6.heap.size, 0, none⟩ = some (.slice Ag ms.length cg) := by rw [← hw]; exact cg_17
  have lf_cgb : (w16.alloc (.cells #[.slice Ah ms.length ch, .int .i64 rb] 30)).cell? ⟨w6.heap.size, 1, none⟩ = some (.int .i64 rb) := by rw [← hw]; exact cgb_17
  have lf_ch : (w16.alloc (.cells #[.slice Ah ms.length ch, .int .i64 rb] 30)).cell? ⟨w16.heap.size, 0, none⟩ = some (.slice Ah ms.length ch) := by rw [← hw]; exact ch_17
  have lf_chb : (w16.alloc (.cells #[.slice Ah ms.length ch, .int .i64 rb] 30)).cell? ⟨w16.heap.size, 1, none⟩ = some (.int .i64 rb) := by rw [← hw]; exact chb_17
  have HW17 : Hid ((w16.alloc (.cells #[.slice Ah ms.length ch, .int .i64 rb] 30)) = w17) := Lib.hid hw.symm
  clear hb hw cw_16 cwb_16 cg_16 cgb_16 Rw_16 Xa_16 Rg_16 Ta_16 Rh_16 HB_16
  clear Ta_17
  go_wp2_with fail
  rw [HW17.out]
  clear lf_cw lf_cwb lf_cg lf_cgb lf_ch lf_chb
  refine (eqFlag_any ms rb _ _ _ _ _ _ _ (sd_of_own Rh_17.out OKM.out) (sd_of_own Rw_17.out OKM.out)).mono ?_
  rintro e w18 ⟨rfl, hb⟩
  have hs18 : w17.heap.size ≤ w18.heap.size := hb.size
  have cw_18 := keep1 hb cw_17
  have cwb_18 := keep1 hb cwb_17
  have cg_18 := keep1 hb cg_17
  have cgb_18 := keep1 hb cgb_17
  have ch_18 := keep1 hb ch_17
  have chb_18 := keep1 hb chb_17
  have Rw_18 := Lib.hid (own_below Rw_17.out hb)
  have Xa_18 := Lib.hid (own_below Xa_17.out hb)
  have Rg_18 := Lib.hid (own_below Rg_17.out hb)
  have Rh_18 := Lib.hid (own_below Rh_17.out hb)
  have HB_18 : Hid (Below w.heap.size w w18) := Lib.hid (HB_17.out.trans (hb.mono HB_17.out.size))
  clear hb  cw_17 cwb_17 cg_17 cgb_17 ch_17 chb_17 Rw_17 Xa_17 Rg_17 Rh_17 HB_17
  go_wp2_with fail
  refine (heldFlag_any 1 _ _ _ _ _ _ Rg_18.out (by omega) (by omega)).mono ?_
  rintro e w19 ⟨rfl, hb⟩
  have hs19 : w18.heap.size ≤ w19.heap.size := hb.size
  have cw_19 := keep1 hb cw_18
  have cwb_19 := keep1 hb cwb_18
  have cg_19 := keep1 hb cg_18
  have cgb_19 := keep1 hb cgb_18
  have ch_19 := keep1 hb ch_18
  have chb_19 := keep1 hb chb_18
  have Rw_19 := Lib.hid (own_below Rw_18.out hb)
  have Xa_19 := Lib.hid (own_below Xa_18.out hb)
  have Rg_19 := Lib.hid (own_below Rg_18.out hb)
  have Rh_19 := Lib.hid (own_below Rh_18.out hb)
  have HB_19 : Hid (Below w.heap.size w w19) := Lib.hid (HB_18.out.trans (hb.mono HB_18.out.size))
  clear hb  cw_18 cwb_18 cg_18 cgb_18 ch_18 chb_18 Rw_18 Xa_18 Rg_18 Rh_18 HB_18
  go_wp2
  go_ret
  exact ⟨rfl, HB_19.out⟩

theorem walk (Aa : Option Addr) (na ca : Nat) (ssa : List It) (zb : Int) (w : World) (hra : ST w w.heap.size Aa na ca ssa) (hzb : -9223372036854775808 ≤ zb ∧ zb ≤ 9223372036854775807) :
    Calls Try.prog 6 #[.slice Aa na ca, .int .i64 zb] w fun e w' => e = .returned (.bool true) ∧ Below w.heap.size w w' := by
  have hl : (mBldF ssa zb).length ≤ 12 := mBldF_len ssa zb
  exact walkV Aa na ca ssa zb (mBldF ssa zb) (mBldB ssa zb) (builtF ssa zb) w hra (Lib.hid fun A n c w h hn => specBuildF_any ssa zb A c n w h) (Lib.hid fun A n c w h hn => implBuildF_any ssa zb A c n w h) (Lib.hid (mBldF_ok hra.ok)) (by omega)

set_option maxRecDepth 100000 in
theorem lifted (os : Os) (started : os.Started) (H : Type) (enc : TypeId × Value → H) :
    ReturnsInHanded {} Try.checked os 6 .any (Rows.fnExactBuildFlagSpec.pre6 enc Try.prog Try.f6 Rows.fnExactBuildFlagRow.domain false) (Rows.fnExactBuildFlagSpec.post enc Try.prog Try.f6 false true false false) := by
  refine returnsInHanded_of_change (C := Try.checked) own started (by kernel_rfl) Try.func6
    (ChangeSpec.witness6 (enc := enc) (C := Try.checked) false ⟨#[], #[.slice none 0 0, .int .i64 0], []⟩ 8 (by kernel_rfl) (by kernel_rfl) (by kernel_rfl) (by kernel_rfl)) ?_
  intro W base args ds gs before hval0 hW hcnd _
  have hval : ∀ (j : Nat) t v, Try.f6.params[j]? = some t → args[j]? = some v → Value.okWide Try.prog W .any base t v := hval0
  have hW' := hW
  obtain ⟨p, q, hA0, hV, rfl, hfz, hnd⟩ := hW
  have hA : DataW.TrodAll enc Try.prog W 0 (fun _ => true) true Try.f6.params.toList args.toList ds p := hA0
  rw [Try.params6] at hA hval
  obtain ⟨v0, vs0, d0, ds0, p0, q0, hargs, rfl, rfl, h0, r0⟩ := trodAll_cons hA
  obtain ⟨v1, vs1, d1, ds1, p1, q1, rfl, rfl, rfl, h1, r1⟩ := trodAll_cons r0
  obtain ⟨rfl, rfl, rfl⟩ := trodAll_nil r1
  obtain rfl : args = #[v0, v1] := by cases args; simp_all
  obtain ⟨rfl, rfl⟩ := trodVars_none hV
  have k0 := h0
  have lt0 : ∀ x ∈ p0, x.block < W.heap.size := by obtain ⟨m, hm⟩ := k0; exact DataW.trod_lt m _ _ _ hm
  obtain ⟨A0, n0, c0, l0, rfl, w0⟩ := open_items (hval 0 39 v0 rfl rfl) h0
  obtain ⟨a1, rfl, rfl, rfl, w1⟩ := open_int Try.underlying3 (hval 1 3 v1 rfl rfl) h1
  clear hA0 hval0
  refine (walk A0 n0 c0 l0 a1 W w0 (wf_bounds w1)).mono fun e W' ⟨he, bel⟩ => ?_
  subst he
  exact ⟨_, rfl, _, _, _, [], _, [], hW', trodAll_mk1 (shut_bool Try.underlying4 _), (trodAll_cons_mk (Below.trod laidOut (by kernel_rfl) (of_decide_eq_true (by kernel_rfl)) k0 bel lt0) (trodAll_cons_mk (shut_int Try.underlying3 w1) trodAll_mk0)), rfl, bel.frame _, fun h => by cases h⟩

theorem over : Rows.fnExactBuildFlagRow.holds Try.pinned (OpenSpec.ofChange Rows.fnExactBuildFlagSpec) :=
  OpenClaim.holds_of_wide 6 Try.f6 rfl rfl rfl rfl rfl rfl rfl ⟨rfl, rfl, rfl, rfl, rfl⟩ rfl rfl rfl rfl rfl (by kernel_rfl) Try.func6 (by kernel_rfl)
    (of_decide_eq_true (by kernel_rfl)) (by unfold Func.isWrapper; first | (rw [if_pos (by decide +kernel)]; kernel_rfl) | (rw [if_neg (by decide +kernel)]; exact ⟨rfl, rfl⟩))
    (fun os started H enc _ => lifted os started H enc)

theorem proved : Rows.FnExactBuildFlagSaid := over
end Go.Proofs.Ytlabdkmjdejgcaa.fnExactBuildFlag
