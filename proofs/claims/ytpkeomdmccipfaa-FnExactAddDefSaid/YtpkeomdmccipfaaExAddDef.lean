/-
For every enumeration and every definition the law on exact answers of AddDef returns true: the program's AddDef answers as its model does, leaves its arguments as they were, and its answer owns its memory.
Conditions: none.
-/
import Derived.Test.YtpkeomdmccipfaaOpen
import Derived.Deep.DeepCutAuto
import Derived.Test.YtpkeomdmccipfaaEdit
import Derived.Test.YtpkeomdmccipfaaMarkD
namespace Go.Proofs.Ytpkeomdmccipfaa.fnExactAddDef
open Go.ChangeShapes Go.WideShapes Go.ChangeAt Go.RowKit
open Go.ChangeMaps (open_string shut_string)
set_option linter.unusedVariables false
set_option maxRecDepth 100000

set_option maxHeartbeats 16000000 in
theorem walkV (Aa : Option Addr) (na ca : Nat) (dsa : List D) (db : D) (ms : List D) (ok : Bool) (w : World) (hra : SD w w.heap.size Aa na ca dsa) (hdb : db.ok)
    (SPC : Hid (∀ (Aa : Option Addr) (na ca : Nat) (w : World), SD w w.heap.size Aa na ca dsa → Calls Try.prog 15 #[.agg #[.slice Aa na ca], .agg #[.string db.name, .int .i64 db.val]] w (EnumR ms ok w)))
    (IMC : Hid (∀ (Aa : Option Addr) (na ca : Nat) (w : World), SD w w.heap.size Aa na ca dsa → Calls Try.prog 18 #[.agg #[.slice Aa na ca], .agg #[.string db.name, .int .i64 db.val]] w (EnumR ms ok w))) (OKM : Hid (∀ d ∈ ms, d.ok)) (hml : ms.length ≤ 1000000) :
    Calls Try.prog 3 #[.agg #[.slice Aa na ca], .agg #[.string db.name, .int .i64 db.val]] w fun e w' => e = .returned (.bool true) ∧ Below w.heap.size w w' := by
  obtain ⟨w0, hw⟩ : ∃ W : World, W = ((w.alloc (.cells #[.slice Aa na ca] 24)).alloc (.cells #[.string db.name, .int .i64 db.val] 26)) := ⟨_, rfl⟩
  have hb : Below w.heap.size w w0 := by rw [hw]; exact (((Below.refl _ _).alloc (by first | exact Nat.le_refl _ | (simp; done) | (simp; omega)) _).alloc (by first | exact Nat.le_refl _ | (simp; done) | (simp; omega)) _)
  have hs0 : w.heap.size + 2 ≤ w0.heap.size := by rw [hw]; simp
  have pa_0 : w0.cell? ⟨w.heap.size, 0, none⟩ = some (.slice Aa na ca) := by rw [hw]; simp [go_sem]
  have pb_0 : w0.cell? ⟨w.heap.size + 1, 0, none⟩ = some (.string db.name) := by rw [hw]; simp [go_sem]
  have qb_0 : w0.cell? ⟨w.heap.size + 1, 1, none⟩ = some (.int .i64 db.val) := by rw [hw]; simp [go_sem]
  have HRa := Lib.hid hra
  clear hra
  have HDb := Lib.hid hdb
  clear hdb
  have HB_0 := Lib.hid hb
  have HW0 : Hid (((w.alloc (.cells #[.slice Aa na ca] 24)).alloc (.cells #[.string db.name, .int .i64 db.val] 26)) = w0) := Lib.hid hw.symm
  clear hb hw
  go_enter Try.func3, Try.ntmps3
  go_wp2_with fail
  rw [HW0.out]
  refine (szEnum_any dsa Aa ca na 1048576 _ ((HRa.out.below HB_0.out).call HB_0.out.size) (by omega) (by omega)).mono ?_
  rintro e w1 ⟨ra, rfl, raa, rba, rca, hb⟩
  have hs1 : w0.heap.size ≤ w1.heap.size := hb.size
  have pa_1 := keep1 hb pa_0
  have pb_1 := keep1 hb pb_0
  have qb_1 := keep1 hb qb_0
  have HB_1 : Hid (Below w.heap.size w w1) := Lib.hid (HB_0.out.trans (hb.mono HB_0.out.size))
  have HQa := Lib.hid rca
  clear hb rca pa_0 pb_0 qb_0 HB_0
  by_cases hnega : ra < 0
  · go_wp2
    go_ret
    exact ⟨rfl, HB_1.out⟩
  have HNa : Hid (na ≤ 1048576) := Lib.hid (by have := HQa.out (by omega); omega)
  clear HQa
  go_wp2_with fail
  refine (szDef_v HDb.out.1 (by omega) (by omega)).mono ?_
  rintro e w2 ⟨rb, rfl, rab, rbb, rcb, hb⟩
  have hs2 : w1.heap.size ≤ w2.heap.size := hb.size
  have pa_2 := keep1 hb pa_1
  have pb_2 := keep1 hb pb_1
  have qb_2 := keep1 hb qb_1
  have HB_2 : Hid (Below w.heap.size w w2) := Lib.hid (HB_1.out.trans (hb.mono HB_1.out.size))
  have HQb := Lib.hid rcb
  clear hb rcb pa_1 pb_1 qb_1 HB_1
  by_cases hnegb : rb < 0
  · go_wp2
    go_ret
    exact ⟨rfl, HB_2.out⟩
  clear HQb
  go_upto_region 8 with fail
  go_cut [6, 7] (fun s0 s1 wx => ∃ (g : Nat) (A0 : Option Addr) (c0 : Nat), s0 = .pointer (some ⟨g, 0, none⟩) ∧ s1 = .bool ok ∧ Hid (wx.cell? ⟨g, 0, none⟩ = some (.slice A0 ms.length c0)) ∧ Hid (wx.ownsRow w2.heap.size 35 2 (.slice A0 ms.length c0) ms.length (flat ms)) ∧ Hid (w2.heap.size ≤ g ∧ (Value.slice A0 ms.length c0).ownBlock ≠ some g) ∧ Hid (∀ q, (Value.slice A0 ms.length c0).ownBlock = some q → w2.heap.size ≤ q ∧ q < wx.heap.size) ∧ Hid (Below w2.heap.size w2 wx))
  case first =>
    have hb0 : Below w2.heap.size w2 w2 := Below.refl _ _
    go_region_held3 (fun w' => Below w2.heap.size w2 w' ∧ w'.cell? ⟨w.heap.size, 0, none⟩ = some (.slice Aa na ca) ∧ w'.cell? ⟨w.heap.size + 1, 0, none⟩ = some (.string db.name) ∧ w'.cell? ⟨w.heap.size + 1, 1, none⟩ = some (.int .i64 db.val))
      (first | with_reducible exact ⟨hbN, keep1 hbN pa_2, keep1 hbN pb_2, keep1 hbN qb_2⟩ | (have hbN : Below w2.heap.size w2 _ := hb0.drew; exact ⟨hbN, keep1 hbN pa_2, keep1 hbN pb_2, keep1 hbN qb_2⟩) | (have hh := ‹Below w2.heap.size w2 _ ∧ _›.1; exact ⟨(hh.alloc hh.size _), keep1 (hh.alloc hh.size _) pa_2, keep1 (hh.alloc hh.size _) pb_2, keep1 (hh.alloc hh.size _) qb_2⟩) | exact ⟨(hbN.alloc hbN.size _), keep1 (hbN.alloc hbN.size _) pa_2, keep1 (hbN.alloc hbN.size _) pb_2, keep1 (hbN.alloc hbN.size _) qb_2⟩ | (have hh := ‹Below w2.heap.size w2 _ ∧ _›.1; exact ⟨(hh.setCell (by first | (simp only; omega) | (simp; omega)) _), keep1 (hh.setCell (by first | (simp only; omega) | (simp; omega)) _) pa_2, keep1 (hh.setCell (by first | (simp only; omega) | (simp; omega)) _) pb_2, keep1 (hh.setCell (by first | (simp only; omega) | (simp; omega)) _) qb_2⟩))
      (first
        | (go_at_call_of 16 (Value.agg #[.slice Aa na ca]); have hh := ‹Below w2.heap.size w2 _ ∧ _›.1; refine (toEnum_any dsa Aa ca na _ ((HRa.out.below (HB_2.out.trans (hh.mono HB_2.out.size))).call (HB_2.out.trans (hh.mono HB_2.out.size)).size) HNa.out).mono ?_; rintro e wta ⟨gta, rfl, hoa, hb⟩; have hbN : Below w2.heap.size w2 wta := hh.trans (hb.mono hh.size); have hzN := hbN.size; (try (have yg := yc.lt; have yc := yc.below hb)); (try (first | have yc := clNewD hb | have yc := clNew hb)); clear hh hb)
        | (go_at_call 17; have hh := ‹Below w2.heap.size w2 _ ∧ _›.1; refine (toDef_any _ _ _).mono ?_; rintro e wtb ⟨rfl, hb⟩; have hbN : Below w2.heap.size w2 wtb := hh.trans (hb.mono hh.size); have hzN := hbN.size; (try (have yg := yc.lt; have yc := yc.below hb)); (try (first | have yc := clNewD hb | have yc := clNew hb)); (try (have hoa := own_below hoa hb)); (try (have hoa := own_below (hoa.alloc _) hb)); clear hh hb)
        | (go_at_call 15; have hh := ‹Below w2.heap.size w2 _ ∧ _›.1; refine (SPC.out _ _ _ _ (by first | exact sdCall hoa HRa.out.ok (Below.refl _ _) | exact sdCall hoa HRa.out.ok (Below.refl _ _).drew | exact sdCall (hoa.alloc _) HRa.out.ok (Below.refl _ _))).mono ?_; rintro e wr ⟨A0, c0, rfl, ho, hb⟩; have hbN : Below w2.heap.size w2 wr := hh.trans (hb.mono hh.size); have hsr := hh.size; have hsb := hb.size; (try (have yg := yc.lt; have yc := yc.below hb; have ya := yc.1; have yb := yc.2)); (try (first | (have yc := clNewD hb; have ya := yc.1; have yb := yc.2; have yg := clNewLt hb) | (have yc := clNew hb; have ya := yc.1; have yb := yc.2; have yg := clNewLt hb)))))
    all_goals
      go_wp2_with fail
      go_meet
      first
        | (obtain ⟨r1, r2, r3, r4, r5, r6⟩ := cutA (t := 31) ho (by omega) hbN; exact ⟨_, _, _, rfl, rfl, Lib.hid r1, Lib.hid r2, Lib.hid ⟨r3, r6⟩, Lib.hid r4, Lib.hid r5⟩)
        | (obtain ⟨r1, r2, r3, r4, r5, r6⟩ := cutB ho (by omega) hbN yc (by omega) (by first | omega | (simp; omega)); exact ⟨_, _, _, rfl, rfl, Lib.hid r1, Lib.hid r2, Lib.hid ⟨r3, r6⟩, Lib.hid r4, Lib.hid r5⟩)
  case rest =>
    obtain ⟨gw, Aw, cw, rfl, rfl, zcell, zrow, zge, zlow, zbel⟩ := hcut
    obtain ⟨w3, hwn⟩ : ∃ W : World, W = wc := ⟨_, rfl⟩
    subst hwn
    have hb := zbel.out
    have hs3 : w2.heap.size ≤ w3.heap.size := hb.size
    have pa_3 := keep1 hb pa_2
    have pb_3 := keep1 hb pb_2
    have qb_3 := keep1 hb qb_2
    have HB_3 : Hid (Below w.heap.size w w3) := Lib.hid (HB_2.out.trans (hb.mono HB_2.out.size))
    have cw_3 := zcell.out
    have hgw : w2.heap.size ≤ gw := zge.out.1
    have RwN := Lib.hid zge.out.2
    have hlw : gw < w3.heap.size := World.block_lt_of_cell? _ _ cw_3
    have Rw_3 := zrow
    have RwL := zlow
    clear hb zcell zrow zge zlow zbel pa_2 pb_2 qb_2 HB_2
    go_wp2_with fail
    refine (toEnum_any dsa Aa ca na _ ((HRa.out.below HB_3.out).call HB_3.out.size) HNa.out).mono ?_
    rintro e w4 ⟨gXa, rfl, ho, hb⟩
    have hs4 : w3.heap.size ≤ w4.heap.size := hb.size
    have pa_4 := keep1 hb pa_3
    have pb_4 := keep1 hb pb_3
    have qb_4 := keep1 hb qb_3
    have cw_4 := keep1 hb cw_3
    have Rw_4 := Lib.hid (own_below Rw_3.out hb)
    have HB_4 : Hid (Below w.heap.size w w4) := Lib.hid (HB_3.out.trans (hb.mono HB_3.out.size))
    have Xa_4 : Hid (w4.ownsRow w3.heap.size 35 2 (.slice (some ⟨gXa, 0, none⟩) na na) na (flat dsa)) := Lib.hid ho
    have XaL : Hid (∀ q, (Value.slice (some ⟨gXa, 0, none⟩) na na).ownBlock = some q → w3.heap.size ≤ q ∧ q < w4.heap.size) := Lib.hid (fun q hq => ho.lt q hq)
    clear ho hb pa_3 pb_3 qb_3 cw_3 Rw_3 HB_3
    obtain ⟨w5, hw⟩ : ∃ W : World, W = (w4.alloc (.cells #[.slice (some ⟨gXa, 0, none⟩) na na] 31)) := ⟨_, rfl⟩
    have hb : Below w4.heap.size w4 w5 := by rw [hw]; exact (Below.refl _ _).alloc (Nat.le_refl _) _
    have hs5 : w4.heap.size + 1 ≤ w5.heap.size := by rw [hw]; simp
    have pa_5 := keep1 hb pa_4
    have pb_5 := keep1 hb pb_4
    have qb_5 := keep1 hb qb_4
    have cw_5 := keep1 hb cw_4
    have Rw_5 := Lib.hid (own_below Rw_4.out hb)
    have Xa_5 := Lib.hid (own_below Xa_4.out hb)
    have HB_5 : Hid (Below w.heap.size w w5) := Lib.hid (HB_4.out.trans (hb.mono HB_4.out.size))
    have xa_5 : w5.cell? ⟨w4.heap.size, 0, none⟩ = some (.slice (some ⟨gXa, 0, none⟩) na na) := by rw [hw]; simp [go_sem]
    have HW5 : Hid ((w4.alloc (.cells #[.slice (some ⟨gXa, 0, none⟩) na na] 31)) = w5) := Lib.hid hw.symm
    clear hb hw pa_4 pb_4 qb_4 cw_4 Rw_4 Xa_4 HB_4
    go_upto_region 10 with fail
    try rw [HW5.out]
    go_cut [9, 10] (fun s0 s1 wx => ∃ (g : Nat) (A0 : Option Addr) (c0 : Nat), s0 = .pointer (some ⟨g, 0, none⟩) ∧ s1 = .bool ok ∧ Hid (wx.cell? ⟨g, 0, none⟩ = some (.slice A0 ms.length c0)) ∧ Hid (wx.ownsRow w5.heap.size 35 2 (.slice A0 ms.length c0) ms.length (flat ms)) ∧ Hid (w5.heap.size ≤ g ∧ (Value.slice A0 ms.length c0).ownBlock ≠ some g) ∧ Hid (∀ q, (Value.slice A0 ms.length c0).ownBlock = some q → w5.heap.size ≤ q ∧ q < wx.heap.size) ∧ Hid (Below w5.heap.size w5 wx))
    case first =>
      have hb0 : Below w5.heap.size w5 w5 := Below.refl _ _
      go_region_held3 (fun w' => Below w5.heap.size w5 w' ∧ w'.cell? ⟨w4.heap.size, 0, none⟩ = some (.slice (some ⟨gXa, 0, none⟩) na na) ∧ w'.cell? ⟨w.heap.size + 1, 0, none⟩ = some (.string db.name) ∧ w'.cell? ⟨w.heap.size + 1, 1, none⟩ = some (.int .i64 db.val))
        (first | with_reducible exact ⟨hbN, keep1 hbN xa_5, keep1 hbN pb_5, keep1 hbN qb_5⟩ | (have hbN : Below w5.heap.size w5 _ := hb0.drew; exact ⟨hbN, keep1 hbN xa_5, keep1 hbN pb_5, keep1 hbN qb_5⟩) | (have hh := ‹Below w5.heap.size w5 _ ∧ _›.1; exact ⟨(hh.alloc hh.size _), keep1 (hh.alloc hh.size _) xa_5, keep1 (hh.alloc hh.size _) pb_5, keep1 (hh.alloc hh.size _) qb_5⟩) | exact ⟨(hbN.alloc hbN.size _), keep1 (hbN.alloc hbN.size _) xa_5, keep1 (hbN.alloc hbN.size _) pb_5, keep1 (hbN.alloc hbN.size _) qb_5⟩ | (have hh := ‹Below w5.heap.size w5 _ ∧ _›.1; exact ⟨(hh.setCell (by first | (simp only; omega) | (simp; omega)) _), keep1 (hh.setCell (by first | (simp only; omega) | (simp; omega)) _) xa_5, keep1 (hh.setCell (by first | (simp only; omega) | (simp; omega)) _) pb_5, keep1 (hh.setCell (by first | (simp only; omega) | (simp; omega)) _) qb_5⟩))
        (first
          | (go_at_call 17; have hh := ‹Below w5.heap.size w5 _ ∧ _›.1; refine (toDef_any _ _ _).mono ?_; rintro e wtb ⟨rfl, hb⟩; have hbN : Below w5.heap.size w5 wtb := hh.trans (hb.mono hh.size); have hzN := hbN.size; (try (have yg := yc.lt; have yc := yc.below hb)); (try (first | have yc := clNewD hb | have yc := clNew hb)); clear hh hb)
          | (go_at_call 18; have hh := ‹Below w5.heap.size w5 _ ∧ _›.1; refine (IMC.out _ _ _ _ (sdCall Xa_5.out HRa.out.ok hh)).mono ?_; rintro e wr ⟨A0, c0, rfl, ho, hb⟩; have hbN : Below w5.heap.size w5 wr := hh.trans (hb.mono hh.size); have hsr := hh.size; have hsb := hb.size; (try (have yg := yc.lt; have yc := yc.below hb; have ya := yc.1; have yb := yc.2)); (try (first | (have yc := clNewD hb; have ya := yc.1; have yb := yc.2; have yg := clNewLt hb) | (have yc := clNew hb; have ya := yc.1; have yb := yc.2; have yg := clNewLt hb)))))
      all_goals
        go_wp2_with fail
        go_meet
        first
          | (obtain ⟨r1, r2, r3, r4, r5, r6⟩ := cutA (t := 31) ho (by omega) hbN; exact ⟨_, _, _, rfl, rfl, Lib.hid r1, Lib.hid r2, Lib.hid ⟨r3, r6⟩, Lib.hid r4, Lib.hid r5⟩)
          | (obtain ⟨r1, r2, r3, r4, r5, r6⟩ := cutB ho (by omega) hbN yc (by omega) (by first | omega | (simp; omega)); exact ⟨_, _, _, rfl, rfl, Lib.hid r1, Lib.hid r2, Lib.hid ⟨r3, r6⟩, Lib.hid r4, Lib.hid r5⟩)
    case rest =>
      obtain ⟨gg, Ag, cg, rfl, rfl, zcell, zrow, zge, zlow, zbel⟩ := hcut
      obtain ⟨w6, hwn⟩ : ∃ W : World, W = wc := ⟨_, rfl⟩
      subst hwn
      have hb := zbel.out
      have hs6 : w5.heap.size ≤ w6.heap.size := hb.size
      have pa_6 := keep1 hb pa_5
      have pb_6 := keep1 hb pb_5
      have qb_6 := keep1 hb qb_5
      have cw_6 := keep1 hb cw_5
      have xa_6 := keep1 hb xa_5
      have Rw_6 := Lib.hid (own_below Rw_5.out hb)
      have Xa_6 := Lib.hid (own_below Xa_5.out hb)
      have HB_6 : Hid (Below w.heap.size w w6) := Lib.hid (HB_5.out.trans (hb.mono HB_5.out.size))
      have cg_6 := zcell.out
      have hgg : w5.heap.size ≤ gg := zge.out.1
      have RgN := Lib.hid zge.out.2
      have hlg : gg < w6.heap.size := World.block_lt_of_cell? _ _ cg_6
      have Rg_6 := zrow
      have RgL := zlow
      clear hb zcell zrow zge zlow zbel pa_5 pb_5 qb_5 cw_5 xa_5 Rw_5 Xa_5 HB_5
      go_wp2_with fail
      refine (eqEnum_any ms _ _ _ _ _ _ _ (sd_of_own Rg_6.out OKM.out) (sd_of_own Rw_6.out OKM.out)).mono ?_
      rintro e w7 ⟨rfl, hb⟩
      have hs7 : w6.heap.size ≤ w7.heap.size := hb.size
      have pa_7 := keep1 hb pa_6
      have pb_7 := keep1 hb pb_6
      have qb_7 := keep1 hb qb_6
      have cw_7 := keep1 hb cw_6
      have xa_7 := keep1 hb xa_6
      have cg_7 := keep1 hb cg_6
      have Rw_7 := Lib.hid (own_below Rw_6.out hb)
      have Xa_7 := Lib.hid (own_below Xa_6.out hb)
      have Rg_7 := Lib.hid (own_below Rg_6.out hb)
      have HB_7 : Hid (Below w.heap.size w w7) := Lib.hid (HB_6.out.trans (hb.mono HB_6.out.size))
      clear hb  pa_6 pb_6 qb_6 cw_6 xa_6 cg_6 Rw_6 Xa_6 Rg_6 HB_6
      go_wp2_with fail
      have hsd : Hid (SD w7 w7.heap.size Aa na ca dsa) := Lib.hid ((HRa.out.below HB_7.out).call HB_7.out.size)
      go_region_held3 (fun w' => w'.cell? ⟨w.heap.size, 0, none⟩ = some (.slice Aa na ca) ∧ w'.cell? ⟨w4.heap.size, 0, none⟩ = some (.slice (some ⟨gXa, 0, none⟩) na na))
        (first
          | go_keep
          | exact ⟨y1, y2⟩ | exact ⟨z1, z2⟩)
        (first
          | (go_at_call 16; refine (toEnum_any dsa Aa ca na _ (by first | exact hsd.out | exact hsd.out.drew | exact hsd.out.drewN _) HNa.out).mono ?_; rintro e w8 ⟨gt, rfl, ho, hb⟩; replace hb : Below w7.heap.size w7 w8 := (by first | exact hb | exact undrew hb); have y1 := keep1 hb pa_7; have y2 := keep1 hb xa_7)
          | (go_at_call 19; refine (eqEnum_any dsa _ _ _ _ _ _ _ (by first | exact sd_of_own (own_below Xa_7.out hb) HRa.out.ok | exact (sd_of_own (own_below Xa_7.out hb) HRa.out.ok).drew) (by first | exact sd_of_own ho HRa.out.ok | exact (sd_of_own ho HRa.out.ok).drew)).mono ?_; rintro e w9 ⟨rfl, hb2⟩; replace hb2 : Below w8.heap.size w8 w9 := (by first | exact hb2 | exact undrew hb2); have z1 := keep1 hb2 y1; have z2 := keep1 hb2 y2))
      have hb3 : Below w7.heap.size w7 w9 := hb.trans (hb2.mono hb.size)
      have hs9 : w7.heap.size ≤ w9.heap.size := hb3.size
      have pa_9 := keep1 hb3 pa_7
      have pb_9 := keep1 hb3 pb_7
      have qb_9 := keep1 hb3 qb_7
      have cw_9 := keep1 hb3 cw_7
      have xa_9 := keep1 hb3 xa_7
      have cg_9 := keep1 hb3 cg_7
      have Rw_9 := Lib.hid (own_below Rw_7.out hb3)
      have Xa_9 := Lib.hid (own_below Xa_7.out hb3)
      have Rg_9 := Lib.hid (own_below Rg_7.out hb3)
      have HB_9 : Hid (Below w.heap.size w w9) := Lib.hid (HB_7.out.trans (hb3.mono HB_7.out.size))
      clear hb hb2 hb3 ho y1 y2 z1 z2 hsd pa_7 pb_7 qb_7 cw_7 xa_7 cg_7 Rw_7 Xa_7 Rg_7 HB_7
      go_wp2_with fail
      refine (markEnum_any (1) _ _ _ _ _ _ Xa_9.out (by omega) (by have := HNa.out; omega)).mono ?_
      rintro e w10 ⟨rfl, ho, hg⟩
      have hs10 : w9.heap.size ≤ w10.heap.size := hg.size
      have pa_10 := hg.cell pa_9 (by first | exact fun h => XaN.out h.symm | exact fun h => by have := XaL.out _ h.symm; simp only at this; omega)
      have pb_10 := hg.cell pb_9 (by first | exact fun h => XaN.out h.symm | exact fun h => by have := XaL.out _ h.symm; simp only at this; omega)
      have qb_10 := hg.cell qb_9 (by first | exact fun h => XaN.out h.symm | exact fun h => by have := XaL.out _ h.symm; simp only at this; omega)
      have cw_10 := hg.cell cw_9 (by first | exact fun h => XaN.out h.symm | exact fun h => by have := XaL.out _ h.symm; simp only at this; omega)
      have xa_10 := hg.cell xa_9 (by first | exact fun h => XaN.out h.symm | exact fun h => by have := XaL.out _ h.symm; simp only at this; omega)
      have cg_10 := hg.cell cg_9 (by first | exact fun h => XaN.out h.symm | exact fun h => by have := XaL.out _ h.symm; simp only at this; omega)
      have Rw_10 := Lib.hid (Rw_9.out.kept hg (by
        cases h : (Value.slice Aw ms.length cw).ownBlock with
        | none => exact .inl rfl
        | some q => exact .inr (fun e => by have := RwL.out q h; have := XaL.out q e.symm; omega)))
      have Rg_10 := Lib.hid (Rg_9.out.kept hg (by
        cases h : (Value.slice Ag ms.length cg).ownBlock with
        | none => exact .inl rfl
        | some q => exact .inr (fun e => by have := RgL.out q h; have := XaL.out q e.symm; omega)))
      have HB_10 : Hid (Below w.heap.size w w10) := Lib.hid (HB_9.out.grown hg HB_9.out.size (fun q hq => by have := XaL.out q hq; omega))
      have Xa_10 := Lib.hid ho
      clear ho hg pa_9 pb_9 qb_9 cw_9 xa_9 cg_9 Rw_9 Xa_9 Rg_9 HB_9
      clear xa_10
      have hkk : ¬ (1 + 2 * (na : Int) < 0) := by omega
      go_wp2_with fail
      refine (eqEnum_any ms _ _ _ _ _ _ _ (sd_of_own Rg_10.out OKM.out) (sd_of_own Rw_10.out OKM.out)).mono ?_
      rintro e w11 ⟨rfl, hb⟩
      have hs11 : w10.heap.size ≤ w11.heap.size := hb.size
      have pa_11 := keep1 hb pa_10
      have pb_11 := keep1 hb pb_10
      have qb_11 := keep1 hb qb_10
      have cw_11 := keep1 hb cw_10
      have cg_11 := keep1 hb cg_10
      have Rw_11 := Lib.hid (own_below Rw_10.out hb)
      have Xa_11 := Lib.hid (own_below Xa_10.out hb)
      have Rg_11 := Lib.hid (own_below Rg_10.out hb)
      have HB_11 : Hid (Below w.heap.size w w11) := Lib.hid (HB_10.out.trans (hb.mono HB_10.out.size))
      clear hb  pa_10 pb_10 qb_10 cw_10 cg_10 Rw_10 Xa_10 Rg_10 HB_10
      go_wp2_with fail
      refine (markEnum_any 1 _ _ _ _ _ _ Rg_11.out (by omega) (by omega)).mono ?_
      rintro e w12 ⟨rfl, ho, hg⟩
      have hs12 : w11.heap.size ≤ w12.heap.size := hg.size
      have pa_12 := hg.cell pa_11 (by first | exact fun h => RgN.out h.symm | exact fun h => by have := RgL.out _ h.symm; simp only at this; omega)
      have pb_12 := hg.cell pb_11 (by first | exact fun h => RgN.out h.symm | exact fun h => by have := RgL.out _ h.symm; simp only at this; omega)
      have qb_12 := hg.cell qb_11 (by first | exact fun h => RgN.out h.symm | exact fun h => by have := RgL.out _ h.symm; simp only at this; omega)
      have cw_12 := hg.cell cw_11 (by first | exact fun h => RgN.out h.symm | exact fun h => by have := RgL.out _ h.symm; simp only at this; omega)
      have cg_12 := hg.cell cg_11 (by first | exact fun h => RgN.out h.symm | exact fun h => by have := RgL.out _ h.symm; simp only at this; omega)
      have Rw_12 := Lib.hid (Rw_11.out.kept hg (by
        cases h : (Value.slice Aw ms.length cw).ownBlock with
        | none => exact .inl rfl
        | some q => exact .inr (fun e => by have := RwL.out q h; have := RgL.out q e.symm; omega)))
      have Xa_12 := Lib.hid (Xa_11.out.kept hg (by
        cases h : (Value.slice (some ⟨gXa, 0, none⟩) na na).ownBlock with
        | none => exact .inl rfl
        | some q => exact .inr (fun e => by have := XaL.out q h; have := RgL.out q e.symm; omega)))
      have HB_12 : Hid (Below w.heap.size w w12) := Lib.hid (HB_11.out.grown hg HB_11.out.size (fun q hq => by have := RgL.out q hq; omega))
      have Rg_12 := Lib.hid ho
      clear ho hg pa_11 pb_11 qb_11 cw_11 cg_11 Rw_11 Xa_11 Rg_11 HB_11
      go_wp2_with fail
      refine (heldEnum_any 1 _ _ _ _ _ Rg_12.out (by omega) (by omega)).mono ?_
      rintro e w13 ⟨rfl, hb⟩
      have hs13 : w12.heap.size ≤ w13.heap.size := hb.size
      have pa_13 := keep1 hb pa_12
      have pb_13 := keep1 hb pb_12
      have qb_13 := keep1 hb qb_12
      have cw_13 := keep1 hb cw_12
      have cg_13 := keep1 hb cg_12
      have Rw_13 := Lib.hid (own_below Rw_12.out hb)
      have Xa_13 := Lib.hid (own_below Xa_12.out hb)
      have Rg_13 := Lib.hid (own_below Rg_12.out hb)
      have HB_13 : Hid (Below w.heap.size w w13) := Lib.hid (HB_12.out.trans (hb.mono HB_12.out.size))
      clear hb  pa_12 pb_12 qb_12 cw_12 cg_12 Rw_12 Xa_12 Rg_12 HB_12
      have hqq : ¬ (1 + 2 * (ms.length : Int) < 0) := by omega
      go_upto_region 27 with fail
      go_cut [14, 15] (fun s0 s1 wx => ∃ (g : Nat) (A0 : Option Addr) (c0 : Nat), s0 = .pointer (some ⟨g, 0, none⟩) ∧ s1 = .bool ok ∧ Hid (wx.cell? ⟨g, 0, none⟩ = some (.slice A0 ms.length c0)) ∧ Hid (wx.ownsRow w13.heap.size 35 2 (.slice A0 ms.length c0) ms.length (flat ms)) ∧ Hid (w13.heap.size ≤ g ∧ (Value.slice A0 ms.length c0).ownBlock ≠ some g) ∧ Hid (∀ q, (Value.slice A0 ms.length c0).ownBlock = some q → w13.heap.size ≤ q ∧ q < wx.heap.size) ∧ Hid (Below w13.heap.size w13 wx))
      case first =>
        have hb0 : Below w13.heap.size w13 w13 := Below.refl _ _
        go_region_held3 (fun w' => Below w13.heap.size w13 w' ∧ w'.cell? ⟨w.heap.size, 0, none⟩ = some (.slice Aa na ca) ∧ w'.cell? ⟨w.heap.size + 1, 0, none⟩ = some (.string db.name) ∧ w'.cell? ⟨w.heap.size + 1, 1, none⟩ = some (.int .i64 db.val))
          (first | with_reducible exact ⟨hbN, keep1 hbN pa_13, keep1 hbN pb_13, keep1 hbN qb_13⟩ | (have hbN : Below w13.heap.size w13 _ := hb0.drew; exact ⟨hbN, keep1 hbN pa_13, keep1 hbN pb_13, keep1 hbN qb_13⟩) | (have hh := ‹Below w13.heap.size w13 _ ∧ _›.1; exact ⟨(hh.alloc hh.size _), keep1 (hh.alloc hh.size _) pa_13, keep1 (hh.alloc hh.size _) pb_13, keep1 (hh.alloc hh.size _) qb_13⟩) | exact ⟨(hbN.alloc hbN.size _), keep1 (hbN.alloc hbN.size _) pa_13, keep1 (hbN.alloc hbN.size _) pb_13, keep1 (hbN.alloc hbN.size _) qb_13⟩ | (have hh := ‹Below w13.heap.size w13 _ ∧ _›.1; exact ⟨(hh.setCell (by first | (simp only; omega) | (simp; omega)) _), keep1 (hh.setCell (by first | (simp only; omega) | (simp; omega)) _) pa_13, keep1 (hh.setCell (by first | (simp only; omega) | (simp; omega)) _) pb_13, keep1 (hh.setCell (by first | (simp only; omega) | (simp; omega)) _) qb_13⟩))
          (first
            | (go_at_call_of 16 (Value.agg #[.slice Aa na ca]); have hh := ‹Below w13.heap.size w13 _ ∧ _›.1; refine (toEnum_any dsa Aa ca na _ ((HRa.out.below (HB_13.out.trans (hh.mono HB_13.out.size))).call (HB_13.out.trans (hh.mono HB_13.out.size)).size) HNa.out).mono ?_; rintro e wta ⟨gta, rfl, hoa, hb⟩; have hbN : Below w13.heap.size w13 wta := hh.trans (hb.mono hh.size); have hzN := hbN.size; (try (have yg := yc.lt; have yc := yc.below hb)); (try (first | have yc := clNewD hb | have yc := clNew hb)); clear hh hb)
            | (go_at_call 17; have hh := ‹Below w13.heap.size w13 _ ∧ _›.1; refine (toDef_any _ _ _).mono ?_; rintro e wtb ⟨rfl, hb⟩; have hbN : Below w13.heap.size w13 wtb := hh.trans (hb.mono hh.size); have hzN := hbN.size; (try (have yg := yc.lt; have yc := yc.below hb)); (try (first | have yc := clNewD hb | have yc := clNew hb)); (try (have hoa := own_below hoa hb)); (try (have hoa := own_below (hoa.alloc _) hb)); clear hh hb)
            | (go_at_call 18; have hh := ‹Below w13.heap.size w13 _ ∧ _›.1; refine (IMC.out _ _ _ _ (by first | exact sdCall hoa HRa.out.ok (Below.refl _ _) | exact sdCall hoa HRa.out.ok (Below.refl _ _).drew | exact sdCall (hoa.alloc _) HRa.out.ok (Below.refl _ _))).mono ?_; rintro e wr ⟨A0, c0, rfl, ho, hb⟩; have hbN : Below w13.heap.size w13 wr := hh.trans (hb.mono hh.size); have hsr := hh.size; have hsb := hb.size; (try (have yg := yc.lt; have yc := yc.below hb; have ya := yc.1; have yb := yc.2)); (try (first | (have yc := clNewD hb; have ya := yc.1; have yb := yc.2; have yg := clNewLt hb) | (have yc := clNew hb; have ya := yc.1; have yb := yc.2; have yg := clNewLt hb)))))
        all_goals
          go_wp2_with fail
          go_meet
          first
            | (obtain ⟨r1, r2, r3, r4, r5, r6⟩ := cutA (t := 31) ho (by omega) hbN; exact ⟨_, _, _, rfl, rfl, Lib.hid r1, Lib.hid r2, Lib.hid ⟨r3, r6⟩, Lib.hid r4, Lib.hid r5⟩)
            | (obtain ⟨r1, r2, r3, r4, r5, r6⟩ := cutB ho (by omega) hbN yc (by omega) (by first | omega | (simp; omega)); exact ⟨_, _, _, rfl, rfl, Lib.hid r1, Lib.hid r2, Lib.hid ⟨r3, r6⟩, Lib.hid r4, Lib.hid r5⟩)
      case rest =>
        obtain ⟨gh, Ah, ch, rfl, rfl, zcell, zrow, zge, zlow, zbel⟩ := hcut
        obtain ⟨w14, hwn⟩ : ∃ W : World, W = wc := ⟨_, rfl⟩
        subst hwn
        have hb := zbel.out
        have hs14 : w13.heap.size ≤ w14.heap.size := hb.size
        have pa_14 := keep1 hb pa_13
        have pb_14 := keep1 hb pb_13
        have qb_14 := keep1 hb qb_13
        have cw_14 := keep1 hb cw_13
        have cg_14 := keep1 hb cg_13
        have Rw_14 := Lib.hid (own_below Rw_13.out hb)
        have Xa_14 := Lib.hid (own_below Xa_13.out hb)
        have Rg_14 := Lib.hid (own_below Rg_13.out hb)
        have HB_14 : Hid (Below w.heap.size w w14) := Lib.hid (HB_13.out.trans (hb.mono HB_13.out.size))
        have ch_14 := zcell.out
        have hgh : w13.heap.size ≤ gh := zge.out.1
        have RhN := Lib.hid zge.out.2
        have hlh : gh < w14.heap.size := World.block_lt_of_cell? _ _ ch_14
        have Rh_14 := zrow
        have RhL := zlow
        clear hb zcell zrow zge zlow zbel pa_13 pb_13 qb_13 cw_13 cg_13 Rw_13 Xa_13 Rg_13 HB_13
        go_wp2_with fail
        refine (eqEnum_any ms _ _ _ _ _ _ _ (sd_of_own Rh_14.out OKM.out) (sd_of_own Rw_14.out OKM.out)).mono ?_
        rintro e w15 ⟨rfl, hb⟩
        have hs15 : w14.heap.size ≤ w15.heap.size := hb.size
        have pa_15 := keep1 hb pa_14
        have pb_15 := keep1 hb pb_14
        have qb_15 := keep1 hb qb_14
        have cw_15 := keep1 hb cw_14
        have cg_15 := keep1 hb cg_14
        have ch_15 := keep1 hb ch_14
        have Rw_15 := Lib.hid (own_below Rw_14.out hb)
        have Xa_15 := Lib.hid (own_below Xa_14.out hb)
        have Rg_15 := Lib.hid (own_below Rg_14.out hb)
        have Rh_15 := Lib.hid (own_below Rh_14.out hb)
        have HB_15 : Hid (Below w.heap.size w w15) := Lib.hid (HB_14.out.trans (hb.mono HB_14.out.size))
        clear hb  pa_14 pb_14 qb_14 cw_14 cg_14 ch_14 Rw_14 Xa_14 Rg_14 Rh_14 HB_14
        go_wp2_with fail
        refine (heldEnum_any 1 _ _ _ _ _ Rg_15.out (by omega) (by omega)).mono ?_
        rintro e w16 ⟨rfl, hb⟩
        have hs16 : w15.heap.size ≤ w16.heap.size := hb.size
        have pa_16 := keep1 hb pa_15
        have pb_16 := keep1 hb pb_15
        have qb_16 := keep1 hb qb_15
        have cw_16 := keep1 hb cw_15
        have cg_16 := keep1 hb cg_15
        have ch_16 := keep1 hb ch_15
        have Rw_16 := Lib.hid (own_below Rw_15.out hb)
        have Xa_16 := Lib.hid (own_below Xa_15.out hb)
        have Rg_16 := Lib.hid (own_below Rg_15.out hb)
        have Rh_16 := Lib.hid (own_below Rh_15.out hb)
        have HB_16 : Hid (Below w.heap.size w w16) := Lib.hid (HB_15.out.trans (hb.mono HB_15.out.size))
        clear hb  pa_15 pb_15 qb_15 cw_15 cg_15 ch_15 Rw_15 Xa_15 Rg_15 Rh_15 HB_15
        go_wp2
        go_ret
        exact ⟨rfl, HB_16.out⟩

theorem walk (Aa : Option Addr) (na ca : Nat) (dsa : List D) (db : D) (w : World) (hr : SD w w.heap.size Aa na ca dsa) (hd : db.ok) :
    Calls Try.prog 3 #[.agg #[.slice Aa na ca], .agg #[.string db.name, .int .i64 db.val]] w fun e w' => e = .returned (.bool true) ∧ Below w.heap.size w w' := by
  have hl := mAdd_len dsa db
  exact walkV Aa na ca dsa db ((mAdd dsa db).getD []) (mAdd dsa db).isSome w hr hd (Lib.hid fun A n c w h => specAddDef_any dsa db A n c w h hd) (Lib.hid fun A n c w h => implAddDef_any dsa db A n c w h hd)
    (Lib.hid fun x hx => by rcases mAdd_mem hx with h | rfl; exact hr.ok _ h; exact hd) (by omega)

set_option maxRecDepth 100000 in
theorem lifted (os : Os) (started : os.Started) (H : Type) (enc : TypeId × Value → H) :
    ReturnsInHanded {} Try.checked os 3 .any (Rows.fnExactAddDefSpec.pre6 enc Try.prog Try.f3 Rows.fnExactAddDefRow.domain false) (Rows.fnExactAddDefSpec.post enc Try.prog Try.f3 false true false false) := by
  refine returnsInHanded_of_change (C := Try.checked) own started (by kernel_rfl) Try.func3
    (ChangeSpec.witness6 (enc := enc) (C := Try.checked) false ⟨#[], #[.agg #[.slice none 0 0], .agg #[.string ByteArray.empty, .int .i64 0]], []⟩ 8 (by kernel_rfl) (by kernel_rfl) (by kernel_rfl) (by kernel_rfl)) ?_
  intro W base args ds gs before hval0 hW hcnd _
  have hval : ∀ (j : Nat) t v, Try.f3.params[j]? = some t → args[j]? = some v → Value.okWide Try.prog W .any base t v := hval0
  have hW' := hW
  obtain ⟨p, q, hA0, hV, rfl, hfz, hnd⟩ := hW
  have hA : DataW.TrodAll enc Try.prog W 0 (fun _ => true) true Try.f3.params.toList args.toList ds p := hA0
  rw [Try.params3] at hA hval
  obtain ⟨v0, vs0, d0, ds0, p0, q0, hargs, rfl, rfl, h0, r0⟩ := trodAll_cons hA
  obtain ⟨v1, vs1, d1, ds1, p1, q1, rfl, rfl, rfl, h1, r1⟩ := trodAll_cons r0
  obtain ⟨rfl, rfl, rfl⟩ := trodAll_nil r1
  obtain rfl : args = #[v0, v1] := by cases args; simp_all
  obtain ⟨rfl, rfl⟩ := trodVars_none hV
  have k0 := h0
  have lt0 : ∀ x ∈ p0, x.block < W.heap.size := by obtain ⟨m, hm⟩ := k0; exact DataW.trod_lt m _ _ _ hm
  obtain ⟨A0, n0, c0, l0, rfl, w0⟩ := open_enum (hval 0 24 v0 rfl rfl) h0
  have k1 := h1
  have lt1 : ∀ x ∈ p1, x.block < W.heap.size := by obtain ⟨m, hm⟩ := k1; exact DataW.trod_lt m _ _ _ hm
  obtain ⟨a1, rfl, w1⟩ := open_def (hval 1 26 v1 rfl rfl) h1
  clear hA0 hval0
  refine (walk A0 n0 c0 l0 a1 W w0 w1).mono fun e W' ⟨he, bel⟩ => ?_
  subst he
  exact ⟨_, rfl, _, _, _, [], _, [], hW', trodAll_mk1 (shut_bool Try.underlying4 _), (trodAll_cons_mk (Below.trod laidOut (by kernel_rfl) (of_decide_eq_true (by kernel_rfl)) k0 bel lt0) (trodAll_cons_mk (Below.trod laidOut (by kernel_rfl) (of_decide_eq_true (by kernel_rfl)) k1 bel lt1) trodAll_mk0)), rfl, bel.frame _, fun h => by cases h⟩

theorem over : Rows.fnExactAddDefRow.holds Try.pinned (OpenSpec.ofChange Rows.fnExactAddDefSpec) :=
  OpenClaim.holds_of_wide 3 Try.f3 rfl rfl rfl rfl rfl rfl rfl ⟨rfl, rfl, rfl, rfl, rfl⟩ rfl rfl rfl rfl rfl (by kernel_rfl) Try.func3 (by kernel_rfl)
    (of_decide_eq_true (by kernel_rfl)) (by unfold Func.isWrapper; first | (rw [if_pos (by decide +kernel)]; kernel_rfl) | (rw [if_neg (by decide +kernel)]; exact ⟨rfl, rfl⟩))
    (fun os started H enc _ => lifted os started H enc)

theorem proved : Rows.FnExactAddDefSaid := over
end Go.Proofs.Ytpkeomdmccipfaa.fnExactAddDef
