/-
For every two enumerations the law on exact answers of MergeEnums returns true: the program's MergeEnums answers as its model does, leaves its arguments as they were, and its answer owns its memory.
Conditions: none.
-/
import Derived.Test.YtpkeomdmccipfaaOpen
import Derived.Deep.DeepCutAuto
import Derived.Test.YtpkeomdmccipfaaMergeS
import Derived.Test.YtpkeomdmccipfaaMergeI
import Derived.Test.YtpkeomdmccipfaaMarkD
namespace Go.Proofs.Ytpkeomdmccipfaa.fnExactMergeEnums
open Go.ChangeShapes Go.WideShapes Go.ChangeAt Go.RowKit
open Go.ChangeMaps (open_string shut_string)
set_option linter.unusedVariables false
set_option maxRecDepth 100000

set_option maxHeartbeats 16000000 in
theorem walkV (Aa : Option Addr) (na ca : Nat) (dsa : List D) (Ab : Option Addr) (nb cb : Nat) (dsb : List D) (ms : List D) (ok : Bool) (w : World) (hra : SD w w.heap.size Aa na ca dsa) (hrb : SD w w.heap.size Ab nb cb dsb)
    (SPC : Hid (∀ (Aa : Option Addr) (na ca : Nat) (Ab : Option Addr) (nb cb : Nat) (w : World), SD w w.heap.size Aa na ca dsa → SD w w.heap.size Ab nb cb dsb → Calls Try.prog 26 #[.agg #[.slice Aa na ca], .agg #[.slice Ab nb cb]] w (EnumR ms ok w)))
    (IMC : Hid (∀ (Aa : Option Addr) (na ca : Nat) (Ab : Option Addr) (nb cb : Nat) (w : World), SD w w.heap.size Aa na ca dsa → SD w w.heap.size Ab nb cb dsb → Calls Try.prog 27 #[.agg #[.slice Aa na ca], .agg #[.slice Ab nb cb]] w (EnumR ms ok w))) (OKM : Hid (∀ d ∈ ms, d.ok)) (hml : ms.length ≤ 1000000) :
    Calls Try.prog 6 #[.agg #[.slice Aa na ca], .agg #[.slice Ab nb cb]] w fun e w' => e = .returned (.bool true) ∧ Below w.heap.size w w' := by
  obtain ⟨w0, hw⟩ : ∃ W : World, W = ((w.alloc (.cells #[.slice Aa na ca] 24)).alloc (.cells #[.slice Ab nb cb] 24)) := ⟨_, rfl⟩
  have hb : Below w.heap.size w w0 := by rw [hw]; exact (((Below.refl _ _).alloc (by first | exact Nat.le_refl _ | (simp; done) | (simp; omega)) _).alloc (by first | exact Nat.le_refl _ | (simp; done) | (simp; omega)) _)
  have hs0 : w.heap.size + 2 ≤ w0.heap.size := by rw [hw]; simp
  have pa_0 : w0.cell? ⟨w.heap.size, 0, none⟩ = some (.slice Aa na ca) := by rw [hw]; simp [go_sem]
  have pb_0 : w0.cell? ⟨w.heap.size + 1, 0, none⟩ = some (.slice Ab nb cb) := by rw [hw]; simp [go_sem]
  have HRa := Lib.hid hra
  clear hra
  have HRb := Lib.hid hrb
  clear hrb
  have HB_0 := Lib.hid hb
  have HW0 : Hid (((w.alloc (.cells #[.slice Aa na ca] 24)).alloc (.cells #[.slice Ab nb cb] 24)) = w0) := Lib.hid hw.symm
  clear hb hw
  go_enter Try.func6, Try.ntmps6
  go_wp2_with fail
  rw [HW0.out]
  refine (szEnum_any dsa Aa ca na 1048576 _ ((HRa.out.below HB_0.out).call HB_0.out.size) (by omega) (by omega)).mono ?_
  rintro e w1 ⟨ra, rfl, raa, rba, rca, hb⟩
  have hs1 : w0.heap.size ≤ w1.heap.size := hb.size
  have pa_1 := keep1 hb pa_0
  have pb_1 := keep1 hb pb_0
  have HB_1 : Hid (Below w.heap.size w w1) := Lib.hid (HB_0.out.trans (hb.mono HB_0.out.size))
  have HQa := Lib.hid rca
  clear hb rca pa_0 pb_0 HB_0
  by_cases hnega : ra < 0
  · go_wp2
    go_ret
    exact ⟨rfl, HB_1.out⟩
  have HNa : Hid (na ≤ 1048576) := Lib.hid (by have := HQa.out (by omega); omega)
  clear HQa
  go_wp2_with fail
  refine (szEnum_any dsb Ab cb nb ra _ ((HRb.out.below HB_1.out).call HB_1.out.size) (by omega) (by omega)).mono ?_
  rintro e w2 ⟨rb, rfl, rab, rbb, rcb, hb⟩
  have hs2 : w1.heap.size ≤ w2.heap.size := hb.size
  have pa_2 := keep1 hb pa_1
  have pb_2 := keep1 hb pb_1
  have HB_2 : Hid (Below w.heap.size w w2) := Lib.hid (HB_1.out.trans (hb.mono HB_1.out.size))
  have HQb := Lib.hid rcb
  clear hb rcb pa_1 pb_1 HB_1
  by_cases hnegb : rb < 0
  · go_wp2
    go_ret
    exact ⟨rfl, HB_2.out⟩
  have HNb : Hid (nb ≤ 1048576) := Lib.hid (by have := HQb.out (by omega); omega)
  clear HQb
  go_upto_region 8 with fail
  go_cut [6, 7] (fun s0 s1 wx => ∃ (g : Nat) (A0 : Option Addr) (c0 : Nat), s0 = .pointer (some ⟨g, 0, none⟩) ∧ s1 = .bool ok ∧ Hid (wx.cell? ⟨g, 0, none⟩ = some (.slice A0 ms.length c0)) ∧ Hid (wx.ownsRow w2.heap.size 35 2 (.slice A0 ms.length c0) ms.length (flat ms)) ∧ Hid (w2.heap.size ≤ g ∧ (Value.slice A0 ms.length c0).ownBlock ≠ some g) ∧ Hid (∀ q, (Value.slice A0 ms.length c0).ownBlock = some q → w2.heap.size ≤ q ∧ q < wx.heap.size) ∧ Hid (Below w2.heap.size w2 wx))
  case first =>
    have hb0 : Below w2.heap.size w2 w2 := Below.refl _ _
    go_region_held3 (fun w' => Below w2.heap.size w2 w' ∧ w'.cell? ⟨w.heap.size, 0, none⟩ = some (.slice Aa na ca) ∧ w'.cell? ⟨w.heap.size + 1, 0, none⟩ = some (.slice Ab nb cb))
      (first | with_reducible exact ⟨hbN, keep1 hbN pa_2, keep1 hbN pb_2⟩ | (have hbN : Below w2.heap.size w2 _ := hb0.drew; exact ⟨hbN, keep1 hbN pa_2, keep1 hbN pb_2⟩) | (have hh := ‹Below w2.heap.size w2 _ ∧ _›.1; exact ⟨(hh.alloc hh.size _), keep1 (hh.alloc hh.size _) pa_2, keep1 (hh.alloc hh.size _) pb_2⟩) | exact ⟨(hbN.alloc hbN.size _), keep1 (hbN.alloc hbN.size _) pa_2, keep1 (hbN.alloc hbN.size _) pb_2⟩ | (have hh := ‹Below w2.heap.size w2 _ ∧ _›.1; exact ⟨(hh.setCell (by first | (simp only; omega) | (simp; omega)) _), keep1 (hh.setCell (by first | (simp only; omega) | (simp; omega)) _) pa_2, keep1 (hh.setCell (by first | (simp only; omega) | (simp; omega)) _) pb_2⟩))
      (first
        | (go_at_call_of 16 (Value.agg #[.slice Aa na ca]); have hh := ‹Below w2.heap.size w2 _ ∧ _›.1; refine (toEnum_any dsa Aa ca na _ ((HRa.out.below (HB_2.out.trans (hh.mono HB_2.out.size))).call (HB_2.out.trans (hh.mono HB_2.out.size)).size) HNa.out).mono ?_; rintro e wta ⟨gta, rfl, hoa, hb⟩; have hbN : Below w2.heap.size w2 wta := hh.trans (hb.mono hh.size); have hzN := hbN.size; (try (have yg := yc.lt; have yc := yc.below hb)); (try (first | have yc := clNewD hb | have yc := clNew hb)); (try (have hob := own_below hob hb)); (try (have hob := own_below (hob.alloc _) hb)); clear hh hb)
        | (go_at_call_of 16 (Value.agg #[.slice Ab nb cb]); have hh := ‹Below w2.heap.size w2 _ ∧ _›.1; refine (toEnum_any dsb Ab cb nb _ ((HRb.out.below (HB_2.out.trans (hh.mono HB_2.out.size))).call (HB_2.out.trans (hh.mono HB_2.out.size)).size) HNb.out).mono ?_; rintro e wtb ⟨gtb, rfl, hob, hb⟩; have hbN : Below w2.heap.size w2 wtb := hh.trans (hb.mono hh.size); have hzN := hbN.size; (try (have yg := yc.lt; have yc := yc.below hb)); (try (first | have yc := clNewD hb | have yc := clNew hb)); (try (have hoa := own_below hoa hb)); (try (have hoa := own_below (hoa.alloc _) hb)); clear hh hb)
        | (go_at_call 26; have hh := ‹Below w2.heap.size w2 _ ∧ _›.1; refine (SPC.out _ _ _ _ _ _ _ (by first | exact sdCall hoa HRa.out.ok (Below.refl _ _) | exact sdCall hoa HRa.out.ok (Below.refl _ _).drew | exact sdCall (hoa.alloc _) HRa.out.ok (Below.refl _ _)) (by first | exact sdCall hob HRb.out.ok (Below.refl _ _) | exact sdCall hob HRb.out.ok (Below.refl _ _).drew | exact sdCall (hob.alloc _) HRb.out.ok (Below.refl _ _))).mono ?_; rintro e wr ⟨A0, c0, rfl, ho, hb⟩; have hbN : Below w2.heap.size w2 wr := hh.trans (hb.mono hh.size); have hsr := hh.size; have hsb := hb.size; (try (have yg := yc.lt; have yc := yc.below hb; have ya := yc.1; have yb := yc.2)); (try (first | (have yc := clNewD hb; have ya := yc.1; have yb := yc.2; have yg := clNewLt hb) | (have yc := clNew hb; have ya := yc.1; have yb := yc.2; have yg := clNewLt hb)))))
    all_goals
      go_wp2_with fail
      go_meet
      first
        | (obtain ⟨r1, r2, r3, r4, r5, r6⟩ := cutA (t := 31) ho (by omega) hbN; exact ⟨_, _, _, rfl, rfl, Lib.hid r1, Lib.hid r2, Lib.hid ⟨r3, r6⟩, Lib.hid r4, Lib.hid r5⟩)
        | (obtain ⟨r1, r2, r3, r4, r5, r6⟩ := cutB ho (by omega) hbN yc (by omega) (by first | omega | (simp; omega)); exact ⟨_, _, _, rfl, rfl, Lib.hid r1, Lib.hid r2, Lib.hid ⟨r3, r6⟩, Lib.hid r4, Lib.hid r5⟩)
  case rest =>
    obtain ⟨gw, Aw, cw, rfl, rfl, zcell, zrow, zge, zlow, zbel⟩ := hcut
    obtain ⟨w3, hwn⟩ : ∃ W : World, W = wc := ⟨_, rfl⟩
    subst hwn
    have hb := zbel.out
    have hs3 : w2.heap.size ≤ w3.heap.size := hb.size
    have pa_3 := keep1 hb pa_2
    have pb_3 := keep1 hb pb_2
    have HB_3 : Hid (Below w.heap.size w w3) := Lib.hid (HB_2.out.trans (hb.mono HB_2.out.size))
    have cw_3 := zcell.out
    have hgw : w2.heap.size ≤ gw := zge.out.1
    have RwN := Lib.hid zge.out.2
    have hlw : gw < w3.heap.size := World.block_lt_of_cell? _ _ cw_3
    have Rw_3 := zrow
    have RwL := zlow
    clear hb zcell zrow zge zlow zbel pa_2 pb_2 HB_2
    go_wp2_with fail
    refine (toEnum_any dsa Aa ca na _ ((HRa.out.below HB_3.out).call HB_3.out.size) HNa.out).mono ?_
    rintro e w4 ⟨gXa, rfl, ho, hb⟩
    have hs4 : w3.heap.size ≤ w4.heap.size := hb.size
    have pa_4 := keep1 hb pa_3
    have pb_4 := keep1 hb pb_3
    have cw_4 := keep1 hb cw_3
    have Rw_4 := Lib.hid (own_below Rw_3.out hb)
    have HB_4 : Hid (Below w.heap.size w w4) := Lib.hid (HB_3.out.trans (hb.mono HB_3.out.size))
    have Xa_4 : Hid (w4.ownsRow w3.heap.size 35 2 (.slice (some ⟨gXa, 0, none⟩) na na) na (flat dsa)) := Lib.hid ho
    have XaL : Hid (∀ q, (Value.slice (some ⟨gXa, 0, none⟩) na na).ownBlock = some q → w3.heap.size ≤ q ∧ q < w4.heap.size) := Lib.hid (fun q hq => ho.lt q hq)
    clear ho hb pa_3 pb_3 cw_3 Rw_3 HB_3
    obtain ⟨w5, hw⟩ : ∃ W : World, W = (w4.alloc (.cells #[.slice (some ⟨gXa, 0, none⟩) na na] 31)) := ⟨_, rfl⟩
    have hb : Below w4.heap.size w4 w5 := by rw [hw]; exact (Below.refl _ _).alloc (Nat.le_refl _) _
    have hs5 : w4.heap.size + 1 ≤ w5.heap.size := by rw [hw]; simp
    have pa_5 := keep1 hb pa_4
    have pb_5 := keep1 hb pb_4
    have cw_5 := keep1 hb cw_4
    have Rw_5 := Lib.hid (own_below Rw_4.out hb)
    have Xa_5 := Lib.hid (own_below Xa_4.out hb)
    have HB_5 : Hid (Below w.heap.size w w5) := Lib.hid (HB_4.out.trans (hb.mono HB_4.out.size))
    have xa_5 : w5.cell? ⟨w4.heap.size, 0, none⟩ = some (.slice (some ⟨gXa, 0, none⟩) na na) := by rw [hw]; simp [go_sem]
    have lf_pa : (w4.alloc (.cells #[.slice (some ⟨gXa, 0, none⟩) na na] 31)).cell? ⟨w.heap.size, 0, none⟩ = some (.slice Aa na ca) := by rw [← hw]; exact pa_5
    have lf_pb : (w4.alloc (.cells #[.slice (some ⟨gXa, 0, none⟩) na na] 31)).cell? ⟨w.heap.size + 1, 0, none⟩ = some (.slice Ab nb cb) := by rw [← hw]; exact pb_5
    have lf_cw : (w4.alloc (.cells #[.slice (some ⟨gXa, 0, none⟩) na na] 31)).cell? ⟨gw, 0, none⟩ = some (.slice Aw ms.length cw) := by rw [← hw]; exact cw_5
    have lf_xa : (w4.alloc (.cells #[.slice (some ⟨gXa, 0, none⟩) na na] 31)).cell? ⟨w4.heap.size, 0, none⟩ = some (.slice (some ⟨gXa, 0, none⟩) na na) := by rw [← hw]; exact xa_5
    have HW5 : Hid ((w4.alloc (.cells #[.slice (some ⟨gXa, 0, none⟩) na na] 31)) = w5) := Lib.hid hw.symm
    clear hb hw pa_4 pb_4 cw_4 Rw_4 Xa_4 HB_4
    go_wp2_with fail
    rw [HW5.out]
    clear lf_pa lf_pb lf_cw lf_xa
    refine (toEnum_any dsb Ab cb nb _ ((HRb.out.below HB_5.out).call HB_5.out.size) HNb.out).mono ?_
    rintro e w6 ⟨gXb, rfl, ho, hb⟩
    have hs6 : w5.heap.size ≤ w6.heap.size := hb.size
    have pa_6 := keep1 hb pa_5
    have pb_6 := keep1 hb pb_5
    have cw_6 := keep1 hb cw_5
    have xa_6 := keep1 hb xa_5
    have Rw_6 := Lib.hid (own_below Rw_5.out hb)
    have Xa_6 := Lib.hid (own_below Xa_5.out hb)
    have HB_6 : Hid (Below w.heap.size w w6) := Lib.hid (HB_5.out.trans (hb.mono HB_5.out.size))
    have Xb_6 : Hid (w6.ownsRow w5.heap.size 35 2 (.slice (some ⟨gXb, 0, none⟩) nb nb) nb (flat dsb)) := Lib.hid ho
    have XbL : Hid (∀ q, (Value.slice (some ⟨gXb, 0, none⟩) nb nb).ownBlock = some q → w5.heap.size ≤ q ∧ q < w6.heap.size) := Lib.hid (fun q hq => ho.lt q hq)
    clear ho hb pa_5 pb_5 cw_5 xa_5 Rw_5 Xa_5 HB_5
    obtain ⟨w7, hw⟩ : ∃ W : World, W = (w6.alloc (.cells #[.slice (some ⟨gXb, 0, none⟩) nb nb] 31)) := ⟨_, rfl⟩
    have hb : Below w6.heap.size w6 w7 := by rw [hw]; exact (Below.refl _ _).alloc (Nat.le_refl _) _
    have hs7 : w6.heap.size + 1 ≤ w7.heap.size := by rw [hw]; simp
    have pa_7 := keep1 hb pa_6
    have pb_7 := keep1 hb pb_6
    have cw_7 := keep1 hb cw_6
    have xa_7 := keep1 hb xa_6
    have Rw_7 := Lib.hid (own_below Rw_6.out hb)
    have Xa_7 := Lib.hid (own_below Xa_6.out hb)
    have Xb_7 := Lib.hid (own_below Xb_6.out hb)
    have HB_7 : Hid (Below w.heap.size w w7) := Lib.hid (HB_6.out.trans (hb.mono HB_6.out.size))
    have xb_7 : w7.cell? ⟨w6.heap.size, 0, none⟩ = some (.slice (some ⟨gXb, 0, none⟩) nb nb) := by rw [hw]; simp [go_sem]
    have lf_pa : (w6.alloc (.cells #[.slice (some ⟨gXb, 0, none⟩) nb nb] 31)).cell? ⟨w.heap.size, 0, none⟩ = some (.slice Aa na ca) := by rw [← hw]; exact pa_7
    have lf_pb : (w6.alloc (.cells #[.slice (some ⟨gXb, 0, none⟩) nb nb] 31)).cell? ⟨w.heap.size + 1, 0, none⟩ = some (.slice Ab nb cb) := by rw [← hw]; exact pb_7
    have lf_cw : (w6.alloc (.cells #[.slice (some ⟨gXb, 0, none⟩) nb nb] 31)).cell? ⟨gw, 0, none⟩ = some (.slice Aw ms.length cw) := by rw [← hw]; exact cw_7
    have lf_xa : (w6.alloc (.cells #[.slice (some ⟨gXb, 0, none⟩) nb nb] 31)).cell? ⟨w4.heap.size, 0, none⟩ = some (.slice (some ⟨gXa, 0, none⟩) na na) := by rw [← hw]; exact xa_7
    have lf_xb : (w6.alloc (.cells #[.slice (some ⟨gXb, 0, none⟩) nb nb] 31)).cell? ⟨w6.heap.size, 0, none⟩ = some (.slice (some ⟨gXb, 0, none⟩) nb nb) := by rw [← hw]; exact xb_7
    have HW7 : Hid ((w6.alloc (.cells #[.slice (some ⟨gXb, 0, none⟩) nb nb] 31)) = w7) := Lib.hid hw.symm
    clear hb hw pa_6 pb_6 cw_6 xa_6 Rw_6 Xa_6 Xb_6 HB_6
    go_wp2_with fail
    rw [HW7.out]
    clear lf_pa lf_pb lf_cw lf_xa lf_xb
    refine (IMC.out _ _ _ _ _ _ _ (sd_of_own Xa_7.out HRa.out.ok) (sd_of_own Xb_7.out HRb.out.ok)).mono ?_
    rintro e w8 ⟨Ag, cg, rfl, ho, hb⟩
    have hs8 : w7.heap.size ≤ w8.heap.size := hb.size
    have pa_8 := keep1 hb pa_7
    have pb_8 := keep1 hb pb_7
    have cw_8 := keep1 hb cw_7
    have xa_8 := keep1 hb xa_7
    have xb_8 := keep1 hb xb_7
    have Rw_8 := Lib.hid (own_below Rw_7.out hb)
    have Xa_8 := Lib.hid (own_below Xa_7.out hb)
    have Xb_8 := Lib.hid (own_below Xb_7.out hb)
    have HB_8 : Hid (Below w.heap.size w w8) := Lib.hid (HB_7.out.trans (hb.mono HB_7.out.size))
    have Rg_8 : Hid (w8.ownsRow w7.heap.size 35 2 (.slice Ag ms.length cg) ms.length (flat ms)) := Lib.hid ho
    have RgL : Hid (∀ q, (Value.slice Ag ms.length cg).ownBlock = some q → w7.heap.size ≤ q ∧ q < w8.heap.size) := Lib.hid (fun q hq => ho.lt q hq)
    clear ho
    clear hb pa_7 pb_7 cw_7 xa_7 xb_7 Rw_7 Xa_7 Xb_7 HB_7
    obtain ⟨w9, hw⟩ : ∃ W : World, W = (w8.alloc (.cells #[.slice Ag ms.length cg] 31)) := ⟨_, rfl⟩
    have hb : Below w8.heap.size w8 w9 := by rw [hw]; exact (Below.refl _ _).alloc (Nat.le_refl _) _
    have hs9 : w8.heap.size + 1 ≤ w9.heap.size := by rw [hw]; simp
    have pa_9 := keep1 hb pa_8
    have pb_9 := keep1 hb pb_8
    have cw_9 := keep1 hb cw_8
    have xa_9 := keep1 hb xa_8
    have xb_9 := keep1 hb xb_8
    have Rw_9 := Lib.hid (own_below Rw_8.out hb)
    have Xa_9 := Lib.hid (own_below Xa_8.out hb)
    have Xb_9 := Lib.hid (own_below Xb_8.out hb)
    have Rg_9 := Lib.hid (own_below Rg_8.out hb)
    have HB_9 : Hid (Below w.heap.size w w9) := Lib.hid (HB_8.out.trans (hb.mono HB_8.out.size))
    have cg_9 : w9.cell? ⟨w8.heap.size, 0, none⟩ = some (.slice Ag ms.length cg) := by rw [hw]; simp [go_sem]
    have lf_pa : (w8.alloc (.cells #[.slice Ag ms.length cg] 31)).cell? ⟨w.heap.size, 0, none⟩ = some (.slice Aa na ca) := by rw [← hw]; exact pa_9
    have lf_pb : (w8.alloc (.cells #[.slice Ag ms.length cg] 31)).cell? ⟨w.heap.size + 1, 0, none⟩ = some (.slice Ab nb cb) := by rw [← hw]; exact pb_9
    have lf_cw : (w8.alloc (.cells #[.slice Ag ms.length cg] 31)).cell? ⟨gw, 0, none⟩ = some (.slice Aw ms.length cw) := by rw [← hw]; exact cw_9
    have lf_xa : (w8.alloc (.cells #[.slice Ag ms.length cg] 31)).cell? ⟨w4.heap.size, 0, none⟩ = some (.slice (some ⟨gXa, 0, none⟩) na na) := by rw [← hw]; exact xa_9
    have lf_xb : (w8.alloc (.cells #[.slice Ag ms.length cg] 31)).cell? ⟨w6.heap.size, 0, none⟩ = some (.slice (some ⟨gXb, 0, none⟩) nb nb) := by rw [← hw]; exact xb_9
    have lf_cg : (w8.alloc (.cells #[.slice Ag ms.length cg] 31)).cell? ⟨w8.heap.size, 0, none⟩ = some (.slice Ag ms.length cg) := by rw [← hw]; exact cg_9
    have HW9 : Hid ((w8.alloc (.cells #[.slice Ag ms.length cg] 31)) = w9) := Lib.hid hw.symm
    clear hb hw pa_8 pb_8 cw_8 xa_8 xb_8 Rw_8 Xa_8 Xb_8 Rg_8 HB_8
    go_wp2_with fail
    rw [HW9.out]
    clear lf_pa lf_pb lf_cw lf_xa lf_xb lf_cg
    refine (eqEnum_any ms _ _ _ _ _ _ _ (sd_of_own Rg_9.out OKM.out) (sd_of_own Rw_9.out OKM.out)).mono ?_
    rintro e w10 ⟨rfl, hb⟩
    have hs10 : w9.heap.size ≤ w10.heap.size := hb.size
    have pa_10 := keep1 hb pa_9
    have pb_10 := keep1 hb pb_9
    have cw_10 := keep1 hb cw_9
    have xa_10 := keep1 hb xa_9
    have xb_10 := keep1 hb xb_9
    have cg_10 := keep1 hb cg_9
    have Rw_10 := Lib.hid (own_below Rw_9.out hb)
    have Xa_10 := Lib.hid (own_below Xa_9.out hb)
    have Xb_10 := Lib.hid (own_below Xb_9.out hb)
    have Rg_10 := Lib.hid (own_below Rg_9.out hb)
    have HB_10 : Hid (Below w.heap.size w w10) := Lib.hid (HB_9.out.trans (hb.mono HB_9.out.size))
    clear hb  pa_9 pb_9 cw_9 xa_9 xb_9 cg_9 Rw_9 Xa_9 Xb_9 Rg_9 HB_9
    go_wp2_with fail
    have hsd : Hid (SD w10 w10.heap.size Aa na ca dsa) := Lib.hid ((HRa.out.below HB_10.out).call HB_10.out.size)
    go_region_held3 (fun w' => w'.cell? ⟨w.heap.size, 0, none⟩ = some (.slice Aa na ca) ∧ w'.cell? ⟨w4.heap.size, 0, none⟩ = some (.slice (some ⟨gXa, 0, none⟩) na na))
      (first
        | go_keep
        | exact ⟨y1, y2⟩ | exact ⟨z1, z2⟩)
      (first
        | (go_at_call 16; refine (toEnum_any dsa Aa ca na _ (by first | exact hsd.out | exact hsd.out.drew | exact hsd.out.drewN _) HNa.out).mono ?_; rintro e w11 ⟨gt, rfl, ho, hb⟩; replace hb : Below w10.heap.size w10 w11 := (by first | exact hb | exact undrew hb); have y1 := keep1 hb pa_10; have y2 := keep1 hb xa_10)
        | (go_at_call 19; refine (eqEnum_any dsa _ _ _ _ _ _ _ (by first | exact sd_of_own (own_below Xa_10.out hb) HRa.out.ok | exact (sd_of_own (own_below Xa_10.out hb) HRa.out.ok).drew) (by first | exact sd_of_own ho HRa.out.ok | exact (sd_of_own ho HRa.out.ok).drew)).mono ?_; rintro e w12 ⟨rfl, hb2⟩; replace hb2 : Below w11.heap.size w11 w12 := (by first | exact hb2 | exact undrew hb2); have z1 := keep1 hb2 y1; have z2 := keep1 hb2 y2))
    have hb3 : Below w10.heap.size w10 w12 := hb.trans (hb2.mono hb.size)
    have hs12 : w10.heap.size ≤ w12.heap.size := hb3.size
    have pa_12 := keep1 hb3 pa_10
    have pb_12 := keep1 hb3 pb_10
    have cw_12 := keep1 hb3 cw_10
    have xa_12 := keep1 hb3 xa_10
    have xb_12 := keep1 hb3 xb_10
    have cg_12 := keep1 hb3 cg_10
    have Rw_12 := Lib.hid (own_below Rw_10.out hb3)
    have Xa_12 := Lib.hid (own_below Xa_10.out hb3)
    have Xb_12 := Lib.hid (own_below Xb_10.out hb3)
    have Rg_12 := Lib.hid (own_below Rg_10.out hb3)
    have HB_12 : Hid (Below w.heap.size w w12) := Lib.hid (HB_10.out.trans (hb3.mono HB_10.out.size))
    clear hb hb2 hb3 ho y1 y2 z1 z2 hsd pa_10 pb_10 cw_10 xa_10 xb_10 cg_10 Rw_10 Xa_10 Xb_10 Rg_10 HB_10
    go_wp2_with fail
    have hsd : Hid (SD w12 w12.heap.size Ab nb cb dsb) := Lib.hid ((HRb.out.below HB_12.out).call HB_12.out.size)
    go_region_held3 (fun w' => w'.cell? ⟨w.heap.size + 1, 0, none⟩ = some (.slice Ab nb cb) ∧ w'.cell? ⟨w6.heap.size, 0, none⟩ = some (.slice (some ⟨gXb, 0, none⟩) nb nb))
      (first
        | go_keep
        | exact ⟨y1, y2⟩ | exact ⟨z1, z2⟩)
      (first
        | (go_at_call 16; refine (toEnum_any dsb Ab cb nb _ (by first | exact hsd.out | exact hsd.out.drew | exact hsd.out.drewN _) HNb.out).mono ?_; rintro e w13 ⟨gt, rfl, ho, hb⟩; replace hb : Below w12.heap.size w12 w13 := (by first | exact hb | exact undrew hb); have y1 := keep1 hb pb_12; have y2 := keep1 hb xb_12)
        | (go_at_call 19; refine (eqEnum_any dsb _ _ _ _ _ _ _ (by first | exact sd_of_own (own_below Xb_12.out hb) HRb.out.ok | exact (sd_of_own (own_below Xb_12.out hb) HRb.out.ok).drew) (by first | exact sd_of_own ho HRb.out.ok | exact (sd_of_own ho HRb.out.ok).drew)).mono ?_; rintro e w14 ⟨rfl, hb2⟩; replace hb2 : Below w13.heap.size w13 w14 := (by first | exact hb2 | exact undrew hb2); have z1 := keep1 hb2 y1; have z2 := keep1 hb2 y2))
    have hb3 : Below w12.heap.size w12 w14 := hb.trans (hb2.mono hb.size)
    have hs14 : w12.heap.size ≤ w14.heap.size := hb3.size
    have pa_14 := keep1 hb3 pa_12
    have pb_14 := keep1 hb3 pb_12
    have cw_14 := keep1 hb3 cw_12
    have xa_14 := keep1 hb3 xa_12
    have xb_14 := keep1 hb3 xb_12
    have cg_14 := keep1 hb3 cg_12
    have Rw_14 := Lib.hid (own_below Rw_12.out hb3)
    have Xa_14 := Lib.hid (own_below Xa_12.out hb3)
    have Xb_14 := Lib.hid (own_below Xb_12.out hb3)
    have Rg_14 := Lib.hid (own_below Rg_12.out hb3)
    have HB_14 : Hid (Below w.heap.size w w14) := Lib.hid (HB_12.out.trans (hb3.mono HB_12.out.size))
    clear hb hb2 hb3 ho y1 y2 z1 z2 hsd pa_12 pb_12 cw_12 xa_12 xb_12 cg_12 Rw_12 Xa_12 Xb_12 Rg_12 HB_12
    go_wp2_with fail
    refine (markEnum_any (1) _ _ _ _ _ _ Xa_14.out (by omega) (by have := HNa.out; have := HNb.out; omega)).mono ?_
    rintro e w15 ⟨rfl, ho, hg⟩
    have hs15 : w14.heap.size ≤ w15.heap.size := hg.size
    have pa_15 := hg.cell pa_14 (by first | exact fun h => XaN.out h.symm | exact fun h => by have := XaL.out _ h.symm; simp only at this; omega)
    have pb_15 := hg.cell pb_14 (by first | exact fun h => XaN.out h.symm | exact fun h => by have := XaL.out _ h.symm; simp only at this; omega)
    have cw_15 := hg.cell cw_14 (by first | exact fun h => XaN.out h.symm | exact fun h => by have := XaL.out _ h.symm; simp only at this; omega)
    have xa_15 := hg.cell xa_14 (by first | exact fun h => XaN.out h.symm | exact fun h => by have := XaL.out _ h.symm; simp only at this; omega)
    have xb_15 := hg.cell xb_14 (by first | exact fun h => XaN.out h.symm | exact fun h => by have := XaL.out _ h.symm; simp only at this; omega)
    have cg_15 := hg.cell cg_14 (by first | exact fun h => XaN.out h.symm | exact fun h => by have := XaL.out _ h.symm; simp only at this; omega)
    have Rw_15 := Lib.hid (Rw_14.out.kept hg (by
      cases h : (Value.slice Aw ms.length cw).ownBlock with
      | none => exact .inl rfl
      | some q => exact .inr (fun e => by have := RwL.out q h; have := XaL.out q e.symm; omega)))
    have Xb_15 := Lib.hid (Xb_14.out.kept hg (by
      cases h : (Value.slice (some ⟨gXb, 0, none⟩) nb nb).ownBlock with
      | none => exact .inl rfl
      | some q => exact .inr (fun e => by have := XbL.out q h; have := XaL.out q e.symm; omega)))
    have Rg_15 := Lib.hid (Rg_14.out.kept hg (by
      cases h : (Value.slice Ag ms.length cg).ownBlock with
      | none => exact .inl rfl
      | some q => exact .inr (fun e => by have := RgL.out q h; have := XaL.out q e.symm; omega)))
    have HB_15 : Hid (Below w.heap.size w w15) := Lib.hid (HB_14.out.grown hg HB_14.out.size (fun q hq => by have := XaL.out q hq; omega))
    have Xa_15 := Lib.hid ho
    clear ho hg pa_14 pb_14 cw_14 xa_14 xb_14 cg_14 Rw_14 Xa_14 Xb_14 Rg_14 HB_14
    clear xa_15
    go_wp2_with fail
    refine (markEnum_any (1 + 2 * (na : Int)) _ _ _ _ _ _ Xb_15.out (by omega) (by have := HNa.out; have := HNb.out; omega)).mono ?_
    rintro e w16 ⟨rfl, ho, hg⟩
    have hs16 : w15.heap.size ≤ w16.heap.size := hg.size
    have pa_16 := hg.cell pa_15 (by first | exact fun h => XbN.out h.symm | exact fun h => by have := XbL.out _ h.symm; simp only at this; omega)
    have pb_16 := hg.cell pb_15 (by first | exact fun h => XbN.out h.symm | exact fun h => by have := XbL.out _ h.symm; simp only at this; omega)
    have cw_16 := hg.cell cw_15 (by first | exact fun h => XbN.out h.symm | exact fun h => by have := XbL.out _ h.symm; simp only at this; omega)
    have xb_16 := hg.cell xb_15 (by first | exact fun h => XbN.out h.symm | exact fun h => by have := XbL.out _ h.symm; simp only at this; omega)
    have cg_16 := hg.cell cg_15 (by first | exact fun h => XbN.out h.symm | exact fun h => by have := XbL.out _ h.symm; simp only at this; omega)
    have Rw_16 := Lib.hid (Rw_15.out.kept hg (by
      cases h : (Value.slice Aw ms.length cw).ownBlock with
      | none => exact .inl rfl
      | some q => exact .inr (fun e => by have := RwL.out q h; have := XbL.out q e.symm; omega)))
    have Xa_16 := Lib.hid (Xa_15.out.kept hg (by
      cases h : (Value.slice (some ⟨gXa, 0, none⟩) na na).ownBlock with
      | none => exact .inl rfl
      | some q => exact .inr (fun e => by have := XaL.out q h; have := XbL.out q e.symm; omega)))
    have Rg_16 := Lib.hid (Rg_15.out.kept hg (by
      cases h : (Value.slice Ag ms.length cg).ownBlock with
      | none => exact .inl rfl
      | some q => exact .inr (fun e => by have := RgL.out q h; have := XbL.out q e.symm; omega)))
    have HB_16 : Hid (Below w.heap.size w w16) := Lib.hid (HB_15.out.grown hg HB_15.out.size (fun q hq => by have := XbL.out q hq; omega))
    have Xb_16 := Lib.hid ho
    clear ho hg pa_15 pb_15 cw_15 xb_15 cg_15 Rw_15 Xa_15 Xb_15 Rg_15 HB_15
    clear xb_16
    have hkk : ¬ (1 + 2 * (na : Int) + 2 * (nb : Int) < 0) := by omega
    go_wp2_with fail
    refine (eqEnum_any ms _ _ _ _ _ _ _ (sd_of_own Rg_16.out OKM.out) (sd_of_own Rw_16.out OKM.out)).mono ?_
    rintro e w17 ⟨rfl, hb⟩
    have hs17 : w16.heap.size ≤ w17.heap.size := hb.size
    have pa_17 := keep1 hb pa_16
    have pb_17 := keep1 hb pb_16
    have cw_17 := keep1 hb cw_16
    have cg_17 := keep1 hb cg_16
    have Rw_17 := Lib.hid (own_below Rw_16.out hb)
    have Xa_17 := Lib.hid (own_below Xa_16.out hb)
    have Xb_17 := Lib.hid (own_below Xb_16.out hb)
    have Rg_17 := Lib.hid (own_below Rg_16.out hb)
    have HB_17 : Hid (Below w.heap.size w w17) := Lib.hid (HB_16.out.trans (hb.mono HB_16.out.size))
    clear hb  pa_16 pb_16 cw_16 cg_16 Rw_16 Xa_16 Xb_16 Rg_16 HB_16
    go_wp2_with fail
    refine (markEnum_any 1 _ _ _ _ _ _ Rg_17.out (by omega) (by omega)).mono ?_
    rintro e w18 ⟨rfl, ho, hg⟩
    have hs18 : w17.heap.size ≤ w18.heap.size := hg.size
    have pa_18 := hg.cell pa_17 (by first | exact fun h => RgN.out h.symm | exact fun h => by have := RgL.out _ h.symm; simp only at this; omega)
    have pb_18 := hg.cell pb_17 (by first | exact fun h => RgN.out h.symm | exact fun h => by have := RgL.out _ h.symm; simp only at this; omega)
    have cw_18 := hg.cell cw_17 (by first | exact fun h => RgN.out h.symm | exact fun h => by have := RgL.out _ h.symm; simp only at this; omega)
    have cg_18 := hg.cell cg_17 (by first | exact fun h => RgN.out h.symm | exact fun h => by have := RgL.out _ h.symm; simp only at this; omega)
    have Rw_18 := Lib.hid (Rw_17.out.kept hg (by
      cases h : (Value.slice Aw ms.length cw).ownBlock with
      | none => exact .inl rfl
      | some q => exact .inr (fun e => by have := RwL.out q h; have := RgL.out q e.symm; omega)))
    have Xa_18 := Lib.hid (Xa_17.out.kept hg (by
      cases h : (Value.slice (some ⟨gXa, 0, none⟩) na na).ownBlock with
      | none => exact .inl rfl
      | some q => exact .inr (fun e => by have := XaL.out q h; have := RgL.out q e.symm; omega)))
    have Xb_18 := Lib.hid (Xb_17.out.kept hg (by
      cases h : (Value.slice (some ⟨gXb, 0, none⟩) nb nb).ownBlock with
      | none => exact .inl rfl
      | some q => exact .inr (fun e => by have := XbL.out q h; have := RgL.out q e.symm; omega)))
    have HB_18 : Hid (Below w.heap.size w w18) := Lib.hid (HB_17.out.grown hg HB_17.out.size (fun q hq => by have := RgL.out q hq; omega))
    have Rg_18 := Lib.hid ho
    clear ho hg pa_17 pb_17 cw_17 cg_17 Rw_17 Xa_17 Xb_17 Rg_17 HB_17
    go_wp2_with fail
    refine (heldEnum_any 1 _ _ _ _ _ Rg_18.out (by omega) (by omega)).mono ?_
    rintro e w19 ⟨rfl, hb⟩
    have hs19 : w18.heap.size ≤ w19.heap.size := hb.size
    have pa_19 := keep1 hb pa_18
    have pb_19 := keep1 hb pb_18
    have cw_19 := keep1 hb cw_18
    have cg_19 := keep1 hb cg_18
    have Rw_19 := Lib.hid (own_below Rw_18.out hb)
    have Xa_19 := Lib.hid (own_below Xa_18.out hb)
    have Xb_19 := Lib.hid (own_below Xb_18.out hb)
    have Rg_19 := Lib.hid (own_below Rg_18.out hb)
    have HB_19 : Hid (Below w.heap.size w w19) := Lib.hid (HB_18.out.trans (hb.mono HB_18.out.size))
    clear hb  pa_18 pb_18 cw_18 cg_18 Rw_18 Xa_18 Xb_18 Rg_18 HB_18
    have hqq : ¬ (1 + 2 * (ms.length : Int) < 0) := by omega
    go_upto_region 31 with fail
    go_cut [15, 16] (fun s0 s1 wx => ∃ (g : Nat) (A0 : Option Addr) (c0 : Nat), s0 = .pointer (some ⟨g, 0, none⟩) ∧ s1 = .bool ok ∧ Hid (wx.cell? ⟨g, 0, none⟩ = some (.slice A0 ms.length c0)) ∧ Hid (wx.ownsRow w19.heap.size 35 2 (.slice A0 ms.length c0) ms.length (flat ms)) ∧ Hid (w19.heap.size ≤ g ∧ (Value.slice A0 ms.length c0).ownBlock ≠ some g) ∧ Hid (∀ q, (Value.slice A0 ms.length c0).ownBlock = some q → w19.heap.size ≤ q ∧ q < wx.heap.size) ∧ Hid (Below w19.heap.size w19 wx))
    case first =>
      have hb0 : Below w19.heap.size w19 w19 := Below.refl _ _
      go_region_held3 (fun w' => Below w19.heap.size w19 w' ∧ w'.cell? ⟨w.heap.size, 0, none⟩ = some (.slice Aa na ca) ∧ w'.cell? ⟨w.heap.size + 1, 0, none⟩ = some (.slice Ab nb cb))
        (first | with_reducible exact ⟨hbN, keep1 hbN pa_19, keep1 hbN pb_19⟩ | (have hbN : Below w19.heap.size w19 _ := hb0.drew; exact ⟨hbN, keep1 hbN pa_19, keep1 hbN pb_19⟩) | (have hh := ‹Below w19.heap.size w19 _ ∧ _›.1; exact ⟨(hh.alloc hh.size _), keep1 (hh.alloc hh.size _) pa_19, keep1 (hh.alloc hh.size _) pb_19⟩) | exact ⟨(hbN.alloc hbN.size _), keep1 (hbN.alloc hbN.size _) pa_19, keep1 (hbN.alloc hbN.size _) pb_19⟩ | (have hh := ‹Below w19.heap.size w19 _ ∧ _›.1; exact ⟨(hh.setCell (by first | (simp only; omega) | (simp; omega)) _), keep1 (hh.setCell (by first | (simp only; omega) | (simp; omega)) _) pa_19, keep1 (hh.setCell (by first | (simp only; omega) | (simp; omega)) _) pb_19⟩))
        (first
          | (go_at_call_of 16 (Value.agg #[.slice Aa na ca]); have hh := ‹Below w19.heap.size w19 _ ∧ _›.1; refine (toEnum_any dsa Aa ca na _ ((HRa.out.below (HB_19.out.trans (hh.mono HB_19.out.size))).call (HB_19.out.trans (hh.mono HB_19.out.size)).size) HNa.out).mono ?_; rintro e wta ⟨gta, rfl, hoa, hb⟩; have hbN : Below w19.heap.size w19 wta := hh.trans (hb.mono hh.size); have hzN := hbN.size; (try (have yg := yc.lt; have yc := yc.below hb)); (try (first | have yc := clNewD hb | have yc := clNew hb)); (try (have hob := own_below hob hb)); (try (have hob := own_below (hob.alloc _) hb)); clear hh hb)
          | (go_at_call_of 16 (Value.agg #[.slice Ab nb cb]); have hh := ‹Below w19.heap.size w19 _ ∧ _›.1; refine (toEnum_any dsb Ab cb nb _ ((HRb.out.below (HB_19.out.trans (hh.mono HB_19.out.size))).call (HB_19.out.trans (hh.mono HB_19.out.size)).size) HNb.out).mono ?_; rintro e wtb ⟨gtb, rfl, hob, hb⟩; have hbN : Below w19.heap.size w19 wtb := hh.trans (hb.mono hh.size); have hzN := hbN.size; (try (have yg := yc.lt; have yc := yc.below hb)); (try (first | have yc := clNewD hb | have yc := clNew hb)); (try (have hoa := own_below hoa hb)); (try (have hoa := own_below (hoa.alloc _) hb)); clear hh hb)
          | (go_at_call 27; have hh := ‹Below w19.heap.size w19 _ ∧ _›.1; refine (IMC.out _ _ _ _ _ _ _ (by first | exact sdCall hoa HRa.out.ok (Below.refl _ _) | exact sdCall hoa HRa.out.ok (Below.refl _ _).drew | exact sdCall (hoa.alloc _) HRa.out.ok (Below.refl _ _)) (by first | exact sdCall hob HRb.out.ok (Below.refl _ _) | exact sdCall hob HRb.out.ok (Below.refl _ _).drew | exact sdCall (hob.alloc _) HRb.out.ok (Below.refl _ _))).mono ?_; rintro e wr ⟨A0, c0, rfl, ho, hb⟩; have hbN : Below w19.heap.size w19 wr := hh.trans (hb.mono hh.size); have hsr := hh.size; have hsb := hb.size; (try (have yg := yc.lt; have yc := yc.below hb; have ya := yc.1; have yb := yc.2)); (try (first | (have yc := clNewD hb; have ya := yc.1; have yb := yc.2; have yg := clNewLt hb) | (have yc := clNew hb; have ya := yc.1; have yb := yc.2; have yg := clNewLt hb)))))
      all_goals
        go_wp2_with fail
        go_meet
        first
          | (obtain ⟨r1, r2, r3, r4, r5, r6⟩ := cutA (t := 31) ho (by omega) hbN; exact ⟨_, _, _, rfl, rfl, Lib.hid r1, Lib.hid r2, Lib.hid ⟨r3, r6⟩, Lib.hid r4, Lib.hid r5⟩)
          | (obtain ⟨r1, r2, r3, r4, r5, r6⟩ := cutB ho (by omega) hbN yc (by omega) (by first | omega | (simp; omega)); exact ⟨_, _, _, rfl, rfl, Lib.hid r1, Lib.hid r2, Lib.hid ⟨r3, r6⟩, Lib.hid r4, Lib.hid r5⟩)
    case rest =>
      obtain ⟨gh, Ah, ch, rfl, rfl, zcell, zrow, zge, zlow, zbel⟩ := hcut
      obtain ⟨w20, hwn⟩ : ∃ W : World, W = wc := ⟨_, rfl⟩
      subst hwn
      have hb := zbel.out
      have hs20 : w19.heap.size ≤ w20.heap.size := hb.size
      have pa_20 := keep1 hb pa_19
      have pb_20 := keep1 hb pb_19
      have cw_20 := keep1 hb cw_19
      have cg_20 := keep1 hb cg_19
      have Rw_20 := Lib.hid (own_below Rw_19.out hb)
      have Xa_20 := Lib.hid (own_below Xa_19.out hb)
      have Xb_20 := Lib.hid (own_below Xb_19.out hb)
      have Rg_20 := Lib.hid (own_below Rg_19.out hb)
      have HB_20 : Hid (Below w.heap.size w w20) := Lib.hid (HB_19.out.trans (hb.mono HB_19.out.size))
      have ch_20 := zcell.out
      have hgh : w19.heap.size ≤ gh := zge.out.1
      have RhN := Lib.hid zge.out.2
      have hlh : gh < w20.heap.size := World.block_lt_of_cell? _ _ ch_20
      have Rh_20 := zrow
      have RhL := zlow
      clear hb zcell zrow zge zlow zbel pa_19 pb_19 cw_19 cg_19 Rw_19 Xa_19 Xb_19 Rg_19 HB_19
      go_wp2_with fail
      refine (eqEnum_any ms _ _ _ _ _ _ _ (sd_of_own Rh_20.out OKM.out) (sd_of_own Rw_20.out OKM.out)).mono ?_
      rintro e w21 ⟨rfl, hb⟩
      have hs21 : w20.heap.size ≤ w21.heap.size := hb.size
      have pa_21 := keep1 hb pa_20
      have pb_21 := keep1 hb pb_20
      have cw_21 := keep1 hb cw_20
      have cg_21 := keep1 hb cg_20
      have ch_21 := keep1 hb ch_20
      have Rw_21 := Lib.hid (own_below Rw_20.out hb)
      have Xa_21 := Lib.hid (own_below Xa_20.out hb)
      have Xb_21 := Lib.hid (own_below Xb_20.out hb)
      have Rg_21 := Lib.hid (own_below Rg_20.out hb)
      have Rh_21 := Lib.hid (own_below Rh_20.out hb)
      have HB_21 : Hid (Below w.heap.size w w21) := Lib.hid (HB_20.out.trans (hb.mono HB_20.out.size))
      clear hb  pa_20 pb_20 cw_20 cg_20 ch_20 Rw_20 Xa_20 Xb_20 Rg_20 Rh_20 HB_20
      go_wp2_with fail
      refine (heldEnum_any 1 _ _ _ _ _ Rg_21.out (by omega) (by omega)).mono ?_
      rintro e w22 ⟨rfl, hb⟩
      have hs22 : w21.heap.size ≤ w22.heap.size := hb.size
      have pa_22 := keep1 hb pa_21
      have pb_22 := keep1 hb pb_21
      have cw_22 := keep1 hb cw_21
      have cg_22 := keep1 hb cg_21
      have ch_22 := keep1 hb ch_21
      have Rw_22 := Lib.hid (own_below Rw_21.out hb)
      have Xa_22 := Lib.hid (own_below Xa_21.out hb)
      have Xb_22 := Lib.hid (own_below Xb_21.out hb)
      have Rg_22 := Lib.hid (own_below Rg_21.out hb)
      have Rh_22 := Lib.hid (own_below Rh_21.out hb)
      have HB_22 : Hid (Below w.heap.size w w22) := Lib.hid (HB_21.out.trans (hb.mono HB_21.out.size))
      clear hb  pa_21 pb_21 cw_21 cg_21 ch_21 Rw_21 Xa_21 Xb_21 Rg_21 Rh_21 HB_21
      go_wp2
      go_ret
      exact ⟨rfl, HB_22.out⟩

theorem walk (Aa : Option Addr) (na ca : Nat) (dsa : List D) (Ab : Option Addr) (nb cb : Nat) (dsb : List D) (w : World) (ha : SD w w.heap.size Aa na ca dsa) (hb : SD w w.heap.size Ab nb cb dsb) :
    Calls Try.prog 6 #[.agg #[.slice Aa na ca], .agg #[.slice Ab nb cb]] w fun e w' => e = .returned (.bool true) ∧ Below w.heap.size w w' := by
  have hl := mMerge_len dsa dsb
  exact walkV Aa na ca dsa Ab nb cb dsb ((mMerge dsa dsb).getD []) (mMerge dsa dsb).isSome w ha hb (Lib.hid fun A n c B m e w h1 h2 => specMerge_any dsa dsb A B n c m e w h1 h2) (Lib.hid fun A n c B m e w h1 h2 => implMerge_any dsa dsb A B n c m e w h1 h2) (Lib.hid fun x hx => by rcases mMerge_mem hx with h | h; exact ha.ok _ h; exact hb.ok _ h) (by omega)

set_option maxRecDepth 100000 in
theorem lifted (os : Os) (started : os.Started) (H : Type) (enc : TypeId × Value → H) :
    ReturnsInHanded {} Try.checked os 6 .any (Rows.fnExactMergeEnumsSpec.pre6 enc Try.prog Try.f6 Rows.fnExactMergeEnumsRow.domain false) (Rows.fnExactMergeEnumsSpec.post enc Try.prog Try.f6 false true false false) := by
  refine returnsInHanded_of_change (C := Try.checked) own started (by kernel_rfl) Try.func6
    (ChangeSpec.witness6 (enc := enc) (C := Try.checked) false ⟨#[], #[.agg #[.slice none 0 0], .agg #[.slice none 0 0]], []⟩ 8 (by kernel_rfl) (by kernel_rfl) (by kernel_rfl) (by kernel_rfl)) ?_
  intro W base args ds gs before hval0 hW hcnd _
  have hval : ∀ (j : Nat) t v, Try.f6.params[j]? = some t → args[j]? = some v → Value.okWide Try.prog W .any base t v := hval0
  have hW' := hW
  obtain ⟨p, q, hA0, hV, rfl, hfz, hnd⟩ := hW
  have hA : DataW.TrodAll enc Try.prog W 0 (fun _ => true) true Try.f6.params.toList args.toList ds p := hA0
  rw [Try.params6] at hA hval
  obtain ⟨v0, vs0, d0, ds0, p0, q0, hargs, rfl, rfl, h0, r0⟩ := trodAll_cons hA
  obtain ⟨v1, vs1, d1, ds1, p1, q1, rfl, rfl, rfl, h1, r1⟩ := trodAll_cons r0
  obtain ⟨rfl, rfl, rfl⟩ := trodAll_nil r1
  obtain rfl : args = #[v0, v1] := by cases args; simp_all
  obtain ⟨rfl, rfl⟩ := trodVars_none hV
  have k0 := h0
  have lt0 : ∀ x ∈ p0, x.block < W.heap.size := by obtain ⟨m, hm⟩ := k0; exact DataW.trod_lt m _ _ _ hm
  obtain ⟨A0, n0, c0, l0, rfl, w0⟩ := open_enum (hval 0 24 v0 rfl rfl) h0
  have k1 := h1
  have lt1 : ∀ x ∈ p1, x.block < W.heap.size := by obtain ⟨m, hm⟩ := k1; exact DataW.trod_lt m _ _ _ hm
  obtain ⟨A1, n1, c1, l1, rfl, w1⟩ := open_enum (hval 1 24 v1 rfl rfl) h1
  clear hA0 hval0
  refine (walk A0 n0 c0 l0 A1 n1 c1 l1 W w0 w1).mono fun e W' ⟨he, bel⟩ => ?_
  subst he
  exact ⟨_, rfl, _, _, _, [], _, [], hW', trodAll_mk1 (shut_bool Try.underlying4 _), (trodAll_cons_mk (Below.trod laidOut (by kernel_rfl) (of_decide_eq_true (by kernel_rfl)) k0 bel lt0) (trodAll_cons_mk (Below.trod laidOut (by kernel_rfl) (of_decide_eq_true (by kernel_rfl)) k1 bel lt1) trodAll_mk0)), rfl, bel.frame _, fun h => by cases h⟩

theorem over : Rows.fnExactMergeEnumsRow.holds Try.pinned (OpenSpec.ofChange Rows.fnExactMergeEnumsSpec) :=
  OpenClaim.holds_of_wide 6 Try.f6 rfl rfl rfl rfl rfl rfl rfl ⟨rfl, rfl, rfl, rfl, rfl⟩ rfl rfl rfl rfl rfl (by kernel_rfl) Try.func6 (by kernel_rfl)
    (of_decide_eq_true (by kernel_rfl)) (by unfold Func.isWrapper; first | (rw [if_pos (by decide +kernel)]; kernel_rfl) | (rw [if_neg (by decide +kernel)]; exact ⟨rfl, rfl⟩))
    (fun os started H enc _ => lifted os started H enc)

theorem proved : Rows.FnExactMergeEnumsSaid := over
end Go.Proofs.Ytpkeomdmccipfaa.fnExactMergeEnums
