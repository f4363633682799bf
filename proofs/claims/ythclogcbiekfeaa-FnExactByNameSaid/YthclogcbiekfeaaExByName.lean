/-
For every two enumerations and every text the law on exact answers of ByName returns true: the program's ByName answers as its model does, and leaves its arguments as they were.
Conditions: none.
-/
import Derived.Test.YthclogcbiekfeaaOpen
import Derived.Deep.DeepCutAuto
import Derived.Test.YthclogcbiekfeaaConvS
import Derived.Test.YthclogcbiekfeaaConvM
import Derived.Test.YthclogcbiekfeaaBaseC
namespace Go.Proofs.Ythclogcbiekfeaa.fnExactByName
open Go.ChangeShapes Go.WideShapes Go.ChangeAt Go.RowKit
open Go.ChangeMaps (open_string shut_string)
set_option linter.unusedVariables false
set_option maxRecDepth 100000

set_option maxHeartbeats 16000000 in
theorem walkV (Aa : Option Addr) (na ca : Nat) (dsa : List D) (Ab : Option Addr) (nb cb : Nat) (dsb : List D) (sc : ByteArray) (r0 : ByteArray) (r1 : Bool) (w : World) (hra : SD w w.heap.size Aa na ca dsa) (hrb : SD w w.heap.size Ab nb cb dsb) (hsc : sc.size ≤ maxLen)
    (SPC : Hid (∀ (Aa : Option Addr) (na ca : Nat) (Ab : Option Addr) (nb cb : Nat) (w : World), SD w w.heap.size Aa na ca dsa → SD w w.heap.size Ab nb cb dsb → Calls Try.prog 14 #[.agg #[.slice Aa na ca], .agg #[.slice Ab nb cb], .string sc] w (fun e w' => e = .returned (.tuple #[.string r0, .bool r1]) ∧ Below w.heap.size w w')))
    (IMC : Hid (∀ (Aa : Option Addr) (na ca : Nat) (Ab : Option Addr) (nb cb : Nat) (w : World), SD w w.heap.size Aa na ca dsa → SD w w.heap.size Ab nb cb dsb → Calls Try.prog 16 #[.agg #[.slice Aa na ca], .agg #[.slice Ab nb cb], .string sc] w (fun e w' => e = .returned (.tuple #[.string r0, .bool r1]) ∧ Below w.heap.size w w'))) :
    Calls Try.prog 3 #[.agg #[.slice Aa na ca], .agg #[.slice Ab nb cb], .string sc] w fun e w' => e = .returned (.bool true) ∧ Below w.heap.size w w' := by
  obtain ⟨w0, hw⟩ : ∃ W : World, W = ((w.alloc (.cells #[.slice Aa na ca] 24)).alloc (.cells #[.slice Ab nb cb] 24)) := ⟨_, rfl⟩
  have hb : Below w.heap.size w w0 := by rw [hw]; exact (((Below.refl _ _).alloc (by first | exact Nat.le_refl _ | (simp; done) | (simp; omega)) _).alloc (by first | exact Nat.le_refl _ | (simp; done) | (simp; omega)) _)
  have hs0 : w.heap.size + 2 ≤ w0.heap.size := by rw [hw]; simp
  have pa_0 : w0.cell? ⟨w.heap.size, 0, none⟩ = some (.slice Aa na ca) := by rw [hw]; simp [go_sem]
  have pb_0 : w0.cell? ⟨w.heap.size + 1, 0, none⟩ = some (.slice Ab nb cb) := by rw [hw]; simp [go_sem]
  have HRa := Lib.hid hra
  clear hra
  have HRb := Lib.hid hrb
  clear hrb
  have HB_0 := Lib.hid hb
  have HW0 : Hid (((w.alloc (.cells #[.slice Aa na ca] 24)).alloc (.cells #[.slice Ab nb cb] 24)) = w0) := Lib.hid hw.symm
  clear hb hw
  by_cases hbig0 : 1048576 < (sc.size : Int)
  · go_enter Try.func3, Try.ntmps3
    go_wp2
    go_ret
    rw [HW0.out]
    exact ⟨rfl, HB_0.out⟩
  go_enter Try.func3, Try.ntmps3
  go_wp2_with fail
  rw [HW0.out]
  refine (szEnum_any dsa Aa ca na 1048576 _ ((HRa.out.below HB_0.out).call HB_0.out.size) (by omega) (by omega)).mono ?_
  rintro e w1 ⟨ra, rfl, raa, rba, rca, hb⟩
  have hs1 : w0.heap.size ≤ w1.heap.size := hb.size
  have pa_1 := keep1 hb pa_0
  have pb_1 := keep1 hb pb_0
  have HB_1 : Hid (Below w.heap.size w w1) := Lib.hid (HB_0.out.trans (hb.mono HB_0.out.size))
  have HQa := Lib.hid rca
  clear hb rca pa_0 pb_0 HB_0
  by_cases hnega : ra < 0
  · go_wp2
    go_ret
    exact ⟨rfl, HB_1.out⟩
  have HNa : Hid (na ≤ 1048576) := Lib.hid (by have := HQa.out (by omega); omega)
  clear HQa
  go_wp2_with fail
  refine (szEnum_any dsb Ab cb nb ra _ ((HRb.out.below HB_1.out).call HB_1.out.size) (by omega) (by omega)).mono ?_
  rintro e w2 ⟨rb, rfl, rab, rbb, rcb, hb⟩
  have hs2 : w1.heap.size ≤ w2.heap.size := hb.size
  have pa_2 := keep1 hb pa_1
  have pb_2 := keep1 hb pb_1
  have HB_2 : Hid (Below w.heap.size w w2) := Lib.hid (HB_1.out.trans (hb.mono HB_1.out.size))
  have HQb := Lib.hid rcb
  clear hb rcb pa_1 pb_1 HB_1
  by_cases hnegb : rb < 0
  · go_wp2
    go_ret
    exact ⟨rfl, HB_2.out⟩
  have HNb : Hid (nb ≤ 1048576) := Lib.hid (by have := HQb.out (by omega); omega)
  clear HQb
  go_upto_region 10 with fail
  go_cut [8, 9] (fun s0 s1 wx => s0 = .string r0 ∧ s1 = .bool r1 ∧ Hid (Below w2.heap.size w2 wx))
  case first =>
    have hb0 : Below w2.heap.size w2 w2 := Below.refl _ _
    go_region_held3 (fun w' => Below w2.heap.size w2 w' ∧ w'.cell? ⟨w.heap.size, 0, none⟩ = some (.slice Aa na ca) ∧ w'.cell? ⟨w.heap.size + 1, 0, none⟩ = some (.slice Ab nb cb))
      (first | with_reducible exact ⟨hbN, keep1 hbN pa_2, keep1 hbN pb_2⟩ | (have hbN : Below w2.heap.size w2 _ := hb0.drew; exact ⟨hbN, keep1 hbN pa_2, keep1 hbN pb_2⟩) | (have hh := ‹Below w2.heap.size w2 _ ∧ _›.1; exact ⟨(hh.alloc hh.size _), keep1 (hh.alloc hh.size _) pa_2, keep1 (hh.alloc hh.size _) pb_2⟩) | exact ⟨(hbN.alloc hbN.size _), keep1 (hbN.alloc hbN.size _) pa_2, keep1 (hbN.alloc hbN.size _) pb_2⟩ | (have hh := ‹Below w2.heap.size w2 _ ∧ _›.1; exact ⟨(hh.setCell (by first | (simp only; omega) | (simp; omega)) _), keep1 (hh.setCell (by first | (simp only; omega) | (simp; omega)) _) pa_2, keep1 (hh.setCell (by first | (simp only; omega) | (simp; omega)) _) pb_2⟩))
      (first
        | (go_at_call_of 15 (Value.agg #[.slice Aa na ca]); have hh := ‹Below w2.heap.size w2 _ ∧ _›.1; refine (toEnum_any dsa Aa ca na _ ((HRa.out.below (HB_2.out.trans (hh.mono HB_2.out.size))).call (HB_2.out.trans (hh.mono HB_2.out.size)).size) HNa.out).mono ?_; rintro e wta ⟨gta, rfl, hoa, hb⟩; have hbN : Below w2.heap.size w2 wta := hh.trans (hb.mono hh.size); have hzN := hbN.size; (try (have yg := yc.lt; have yc := yc.below hb)); (try (first | have yc := clNewD hb | have yc := clNew hb)); (try (have hob := own_below hob hb)); (try (have hob := own_below (hob.alloc _) hb)); clear hh hb)
        | (go_at_call_of 15 (Value.agg #[.slice Ab nb cb]); have hh := ‹Below w2.heap.size w2 _ ∧ _›.1; refine (toEnum_any dsb Ab cb nb _ ((HRb.out.below (HB_2.out.trans (hh.mono HB_2.out.size))).call (HB_2.out.trans (hh.mono HB_2.out.size)).size) HNb.out).mono ?_; rintro e wtb ⟨gtb, rfl, hob, hb⟩; have hbN : Below w2.heap.size w2 wtb := hh.trans (hb.mono hh.size); have hzN := hbN.size; (try (have yg := yc.lt; have yc := yc.below hb)); (try (first | have yc := clNewD hb | have yc := clNew hb)); (try (have hoa := own_below hoa hb)); (try (have hoa := own_below (hoa.alloc _) hb)); clear hh hb)
        | (go_at_call 14; have hh := ‹Below w2.heap.size w2 _ ∧ _›.1; refine (SPC.out _ _ _ _ _ _ _ (by first | exact sdCall hoa HRa.out.ok (Below.refl _ _) | exact sdCall hoa HRa.out.ok (Below.refl _ _).drew | exact sdCall (hoa.alloc _) HRa.out.ok (Below.refl _ _)) (by first | exact sdCall hob HRb.out.ok (Below.refl _ _) | exact sdCall hob HRb.out.ok (Below.refl _ _).drew | exact sdCall (hob.alloc _) HRb.out.ok (Below.refl _ _))).mono ?_; rintro e wr ⟨rfl, hb⟩; have hbN : Below w2.heap.size w2 wr := hh.trans (hb.mono hh.size); have hsr := hh.size; have hsb := hb.size; (try (have yg := yc.lt; have yc := yc.below hb; have ya := yc.1; have yb := yc.2)); (try (first | (have yc := clNewD hb; have ya := yc.1; have yb := yc.2; have yg := clNewLt hb) | (have yc := clNew hb; have ya := yc.1; have yb := yc.2; have yg := clNewLt hb)))))
    all_goals
      go_wp2_with fail
      go_meet
      exact ⟨rfl, rfl, Lib.hid hbN⟩
  case rest =>
    obtain ⟨rfl, rfl, zbel⟩ := hcut
    obtain ⟨w3, hwn⟩ : ∃ W : World, W = wc := ⟨_, rfl⟩
    subst hwn
    have hb := zbel.out
    have hs3 : w2.heap.size ≤ w3.heap.size := hb.size
    have pa_3 := keep1 hb pa_2
    have pb_3 := keep1 hb pb_2
    have HB_3 : Hid (Below w.heap.size w w3) := Lib.hid (HB_2.out.trans (hb.mono HB_2.out.size))
    clear hb zbel pa_2 pb_2 HB_2
    go_wp2_with fail
    refine (toEnum_any dsa Aa ca na _ ((HRa.out.below HB_3.out).call HB_3.out.size) HNa.out).mono ?_
    rintro e w4 ⟨gXa, rfl, ho, hb⟩
    have hs4 : w3.heap.size ≤ w4.heap.size := hb.size
    have pa_4 := keep1 hb pa_3
    have pb_4 := keep1 hb pb_3
    have HB_4 : Hid (Below w.heap.size w w4) := Lib.hid (HB_3.out.trans (hb.mono HB_3.out.size))
    have Xa_4 : Hid (w4.ownsRow w3.heap.size 76 2 (.slice (some ⟨gXa, 0, none⟩) na na) na (flat dsa)) := Lib.hid ho
    have XaL : Hid (∀ q, (Value.slice (some ⟨gXa, 0, none⟩) na na).ownBlock = some q → w3.heap.size ≤ q ∧ q < w4.heap.size) := Lib.hid (fun q hq => ho.lt q hq)
    clear ho hb pa_3 pb_3 HB_3
    obtain ⟨w5, hw⟩ : ∃ W : World, W = (w4.alloc (.cells #[.slice (some ⟨gXa, 0, none⟩) na na] 30)) := ⟨_, rfl⟩
    have hb : Below w4.heap.size w4 w5 := by rw [hw]; exact (Below.refl _ _).alloc (Nat.le_refl _) _
    have hs5 : w4.heap.size + 1 ≤ w5.heap.size := by rw [hw]; simp
    have pa_5 := keep1 hb pa_4
    have pb_5 := keep1 hb pb_4
    have Xa_5 := Lib.hid (own_below Xa_4.out hb)
    have HB_5 : Hid (Below w.heap.size w w5) := Lib.hid (HB_4.out.trans (hb.mono HB_4.out.size))
    have xa_5 : w5.cell? ⟨w4.heap.size, 0, none⟩ = some (.slice (some ⟨gXa, 0, none⟩) na na) := by rw [hw]; simp [go_sem]
    have lf_pa : (w4.alloc (.cells #[.slice (some ⟨gXa, 0, none⟩) na na] 30)).cell? ⟨w.heap.size, 0, none⟩ = some (.slice Aa na ca) := by rw [← hw]; exact pa_5
    have lf_pb : (w4.alloc (.cells #[.slice (some ⟨gXa, 0, none⟩) na na] 30)).cell? ⟨w.heap.size + 1, 0, none⟩ = some (.slice Ab nb cb) := by rw [← hw]; exact pb_5
    have lf_xa : (w4.alloc (.cells #[.slice (some ⟨gXa, 0, none⟩) na na] 30)).cell? ⟨w4.heap.size, 0, none⟩ = some (.slice (some ⟨gXa, 0, none⟩) na na) := by rw [← hw]; exact xa_5
    have HW5 : Hid ((w4.alloc (.cells #[.slice (some ⟨gXa, 0, none⟩) na na] 30)) = w5) := Lib.hid hw.symm
    clear hb hw pa_4 pb_4 Xa_4 HB_4
    go_wp2_with fail
    rw [HW5.out]
    clear lf_pa lf_pb lf_xa
    refine (toEnum_any dsb Ab cb nb _ ((HRb.out.below HB_5.out).call HB_5.out.size) HNb.out).mono ?_
    rintro e w6 ⟨gXb, rfl, ho, hb⟩
    have hs6 : w5.heap.size ≤ w6.heap.size := hb.size
    have pa_6 := keep1 hb pa_5
    have pb_6 := keep1 hb pb_5
    have xa_6 := keep1 hb xa_5
    have Xa_6 := Lib.hid (own_below Xa_5.out hb)
    have HB_6 : Hid (Below w.heap.size w w6) := Lib.hid (HB_5.out.trans (hb.mono HB_5.out.size))
    have Xb_6 : Hid (w6.ownsRow w5.heap.size 76 2 (.slice (some ⟨gXb, 0, none⟩) nb nb) nb (flat dsb)) := Lib.hid ho
    have XbL : Hid (∀ q, (Value.slice (some ⟨gXb, 0, none⟩) nb nb).ownBlock = some q → w5.heap.size ≤ q ∧ q < w6.heap.size) := Lib.hid (fun q hq => ho.lt q hq)
    clear ho hb pa_5 pb_5 xa_5 Xa_5 HB_5
    obtain ⟨w7, hw⟩ : ∃ W : World, W = (w6.alloc (.cells #[.slice (some ⟨gXb, 0, none⟩) nb nb] 30)) := ⟨_, rfl⟩
    have hb : Below w6.heap.size w6 w7 := by rw [hw]; exact (Below.refl _ _).alloc (Nat.le_refl _) _
    have hs7 : w6.heap.size + 1 ≤ w7.heap.size := by rw [hw]; simp
    have pa_7 := keep1 hb pa_6
    have pb_7 := keep1 hb pb_6
    have xa_7 := keep1 hb xa_6
    have Xa_7 := Lib.hid (own_below Xa_6.out hb)
    have Xb_7 := Lib.hid (own_below Xb_6.out hb)
    have HB_7 : Hid (Below w.heap.size w w7) := Lib.hid (HB_6.out.trans (hb.mono HB_6.out.size))
    have xb_7 : w7.cell? ⟨w6.heap.size, 0, none⟩ = some (.slice (some ⟨gXb, 0, none⟩) nb nb) := by rw [hw]; simp [go_sem]
    have lf_pa : (w6.alloc (.cells #[.slice (some ⟨gXb, 0, none⟩) nb nb] 30)).cell? ⟨w.heap.size, 0, none⟩ = some (.slice Aa na ca) := by rw [← hw]; exact pa_7
    have lf_pb : (w6.alloc (.cells #[.slice (some ⟨gXb, 0, none⟩) nb nb] 30)).cell? ⟨w.heap.size + 1, 0, none⟩ = some (.slice Ab nb cb) := by rw [← hw]; exact pb_7
    have lf_xa : (w6.alloc (.cells #[.slice (some ⟨gXb, 0, none⟩) nb nb] 30)).cell? ⟨w4.heap.size, 0, none⟩ = some (.slice (some ⟨gXa, 0, none⟩) na na) := by rw [← hw]; exact xa_7
    have lf_xb : (w6.alloc (.cells #[.slice (some ⟨gXb, 0, none⟩) nb nb] 30)).cell? ⟨w6.heap.size, 0, none⟩ = some (.slice (some ⟨gXb, 0, none⟩) nb nb) := by rw [← hw]; exact xb_7
    have HW7 : Hid ((w6.alloc (.cells #[.slice (some ⟨gXb, 0, none⟩) nb nb] 30)) = w7) := Lib.hid hw.symm
    clear hb hw pa_6 pb_6 xa_6 Xa_6 Xb_6 HB_6
    go_wp2_with fail
    rw [HW7.out]
    clear lf_pa lf_pb lf_xa lf_xb
    refine (IMC.out _ _ _ _ _ _ _ (sd_of_own Xa_7.out HRa.out.ok) (sd_of_own Xb_7.out HRb.out.ok)).mono ?_
    rintro e w8 ⟨rfl, hb⟩
    have hs8 : w7.heap.size ≤ w8.heap.size := hb.size
    have pa_8 := keep1 hb pa_7
    have pb_8 := keep1 hb pb_7
    have xa_8 := keep1 hb xa_7
    have xb_8 := keep1 hb xb_7
    have Xa_8 := Lib.hid (own_below Xa_7.out hb)
    have Xb_8 := Lib.hid (own_below Xb_7.out hb)
    have HB_8 : Hid (Below w.heap.size w w8) := Lib.hid (HB_7.out.trans (hb.mono HB_7.out.size))
    clear hb pa_7 pb_7 xa_7 xb_7 Xa_7 Xb_7 HB_7
    go_wp2_with fail
    have hsd : Hid (SD w8 w8.heap.size Aa na ca dsa) := Lib.hid ((HRa.out.below HB_8.out).call HB_8.out.size)
    go_region_held3 (fun w' => w'.cell? ⟨w.heap.size, 0, none⟩ = some (.slice Aa na ca) ∧ w'.cell? ⟨w4.heap.size, 0, none⟩ = some (.slice (some ⟨gXa, 0, none⟩) na na))
      (first
        | go_keep
        | exact ⟨y1, y2⟩ | exact ⟨z1, z2⟩)
      (first
        | (go_at_call 15; refine (toEnum_any dsa Aa ca na _ (by first | exact hsd.out | exact hsd.out.drew | exact hsd.out.drewN _) HNa.out).mono ?_; rintro e w9 ⟨gt, rfl, ho, hb⟩; replace hb : Below w8.heap.size w8 w9 := (by first | exact hb | exact undrew hb); have y1 := keep1 hb pa_8; have y2 := keep1 hb xa_8)
        | (go_at_call 17; refine (eqEnum_any dsa _ _ _ _ _ _ _ (by first | exact sd_of_own (own_below Xa_8.out hb) HRa.out.ok | exact (sd_of_own (own_below Xa_8.out hb) HRa.out.ok).drew) (by first | exact sd_of_own ho HRa.out.ok | exact (sd_of_own ho HRa.out.ok).drew)).mono ?_; rintro e w10 ⟨rfl, hb2⟩; replace hb2 : Below w9.heap.size w9 w10 := (by first | exact hb2 | exact undrew hb2); have z1 := keep1 hb2 y1; have z2 := keep1 hb2 y2))
    have hb3 : Below w8.heap.size w8 w10 := hb.trans (hb2.mono hb.size)
    have hs10 : w8.heap.size ≤ w10.heap.size := hb3.size
    have pa_10 := keep1 hb3 pa_8
    have pb_10 := keep1 hb3 pb_8
    have xa_10 := keep1 hb3 xa_8
    have xb_10 := keep1 hb3 xb_8
    have Xa_10 := Lib.hid (own_below Xa_8.out hb3)
    have Xb_10 := Lib.hid (own_below Xb_8.out hb3)
    have HB_10 : Hid (Below w.heap.size w w10) := Lib.hid (HB_8.out.trans (hb3.mono HB_8.out.size))
    clear hb hb2 hb3 ho y1 y2 z1 z2 hsd pa_8 pb_8 xa_8 xb_8 Xa_8 Xb_8 HB_8
    go_wp2_with fail
    have hsd : Hid (SD w10 w10.heap.size Ab nb cb dsb) := Lib.hid ((HRb.out.below HB_10.out).call HB_10.out.size)
    go_region_held3 (fun w' => w'.cell? ⟨w.heap.size + 1, 0, none⟩ = some (.slice Ab nb cb) ∧ w'.cell? ⟨w6.heap.size, 0, none⟩ = some (.slice (some ⟨gXb, 0, none⟩) nb nb))
      (first
        | go_keep
        | exact ⟨y1, y2⟩ | exact ⟨z1, z2⟩)
      (first
        | (go_at_call 15; refine (toEnum_any dsb Ab cb nb _ (by first | exact hsd.out | exact hsd.out.drew | exact hsd.out.drewN _) HNb.out).mono ?_; rintro e w11 ⟨gt, rfl, ho, hb⟩; replace hb : Below w10.heap.size w10 w11 := (by first | exact hb | exact undrew hb); have y1 := keep1 hb pb_10; have y2 := keep1 hb xb_10)
        | (go_at_call 17; refine (eqEnum_any dsb _ _ _ _ _ _ _ (by first | exact sd_of_own (own_below Xb_10.out hb) HRb.out.ok | exact (sd_of_own (own_below Xb_10.out hb) HRb.out.ok).drew) (by first | exact sd_of_own ho HRb.out.ok | exact (sd_of_own ho HRb.out.ok).drew)).mono ?_; rintro e w12 ⟨rfl, hb2⟩; replace hb2 : Below w11.heap.size w11 w12 := (by first | exact hb2 | exact undrew hb2); have z1 := keep1 hb2 y1; have z2 := keep1 hb2 y2))
    have hb3 : Below w10.heap.size w10 w12 := hb.trans (hb2.mono hb.size)
    have hs12 : w10.heap.size ≤ w12.heap.size := hb3.size
    have pa_12 := keep1 hb3 pa_10
    have pb_12 := keep1 hb3 pb_10
    have xa_12 := keep1 hb3 xa_10
    have xb_12 := keep1 hb3 xb_10
    have Xa_12 := Lib.hid (own_below Xa_10.out hb3)
    have Xb_12 := Lib.hid (own_below Xb_10.out hb3)
    have HB_12 : Hid (Below w.heap.size w w12) := Lib.hid (HB_10.out.trans (hb3.mono HB_10.out.size))
    clear hb hb2 hb3 ho y1 y2 z1 z2 hsd pa_10 pb_10 xa_10 xb_10 Xa_10 Xb_10 HB_10
    go_wp2
    go_ret
    exact ⟨rfl, HB_12.out⟩

theorem walk (Aa : Option Addr) (na ca : Nat) (dsa : List D) (Ab : Option Addr) (nb cb : Nat) (dsb : List D) (sc : ByteArray) (w : World) (ha : SD w w.heap.size Aa na ca dsa) (hb : SD w w.heap.size Ab nb cb dsb) (hs : sc.size ≤ maxLen) :
    Calls Try.prog 3 #[.agg #[.slice Aa na ca], .agg #[.slice Ab nb cb], .string sc] w fun e w' => e = .returned (.bool true) ∧ Below w.heap.size w w' := by
  exact walkV Aa na ca dsa Ab nb cb dsb sc (mByN dsa dsb sc) (byOk dsa dsb sc) w ha hb hs (Lib.hid fun A n c B m e w h1 h2 => specByN_v dsa dsb sc A B n c m e w h1 h2 rfl rfl) (Lib.hid fun A n c B m e w h1 h2 => implByN_v dsa dsb sc A B n c m e w h1 h2 rfl rfl)

set_option maxRecDepth 100000 in
theorem lifted (os : Os) (started : os.Started) (H : Type) (enc : TypeId × Value → H) :
    ReturnsInHanded {} Try.checked os 3 .any (Rows.fnExactByNameSpec.pre6 enc Try.prog Try.f3 Rows.fnExactByNameRow.domain false) (Rows.fnExactByNameSpec.post enc Try.prog Try.f3 false true false false) := by
  refine returnsInHanded_of_change (C := Try.checked) own started (by kernel_rfl) Try.func3
    (ChangeSpec.witness6 (enc := enc) (C := Try.checked) false ⟨#[], #[.agg #[.slice none 0 0], .agg #[.slice none 0 0], .string ByteArray.empty], []⟩ 8 (by kernel_rfl) (by kernel_rfl) (by kernel_rfl) (by kernel_rfl)) ?_
  intro W base args ds gs before hval0 hW hcnd _
  have hval : ∀ (j : Nat) t v, Try.f3.params[j]? = some t → args[j]? = some v → Value.okWide Try.prog W .any base t v := hval0
  have hW' := hW
  obtain ⟨p, q, hA0, hV, rfl, hfz, hnd⟩ := hW
  have hA : DataW.TrodAll enc Try.prog W 0 (fun _ => true) true Try.f3.params.toList args.toList ds p := hA0
  rw [Try.params3] at hA hval
  obtain ⟨v0, vs0, d0, ds0, p0, q0, hargs, rfl, rfl, h0, r0⟩ := trodAll_cons hA
  obtain ⟨v1, vs1, d1, ds1, p1, q1, rfl, rfl, rfl, h1, r1⟩ := trodAll_cons r0
  obtain ⟨v2, vs2, d2, ds2, p2, q2, rfl, rfl, rfl, h2, r2⟩ := trodAll_cons r1
  obtain ⟨rfl, rfl, rfl⟩ := trodAll_nil r2
  obtain rfl : args = #[v0, v1, v2] := by cases args; simp_all
  obtain ⟨rfl, rfl⟩ := trodVars_none hV
  have k0 := h0
  have lt0 : ∀ x ∈ p0, x.block < W.heap.size := by obtain ⟨m, hm⟩ := k0; exact DataW.trod_lt m _ _ _ hm
  obtain ⟨A0, n0, c0, l0, rfl, w0⟩ := open_enum (hval 0 24 v0 rfl rfl) h0
  have k1 := h1
  have lt1 : ∀ x ∈ p1, x.block < W.heap.size := by obtain ⟨m, hm⟩ := k1; exact DataW.trod_lt m _ _ _ hm
  obtain ⟨A1, n1, c1, l1, rfl, w1⟩ := open_enum (hval 1 24 v1 rfl rfl) h1
  obtain ⟨a2, rfl, rfl, rfl, w2⟩ := open_string Try.underlying9 (hval 2 9 v2 rfl rfl) h2
  clear hA0 hval0
  refine (walk A0 n0 c0 l0 A1 n1 c1 l1 a2 W w0 w1 w2).mono fun e W' ⟨he, bel⟩ => ?_
  subst he
  exact ⟨_, rfl, _, _, _, [], _, [], hW', trodAll_mk1 (shut_bool Try.underlying4 _), (trodAll_cons_mk (Below.trod laidOut (by kernel_rfl) (of_decide_eq_true (by kernel_rfl)) k0 bel lt0) (trodAll_cons_mk (Below.trod laidOut (by kernel_rfl) (of_decide_eq_true (by kernel_rfl)) k1 bel lt1) (trodAll_cons_mk (shut_string Try.underlying9 w2) trodAll_mk0))), rfl, bel.frame _, fun h => by cases h⟩

theorem over : Rows.fnExactByNameRow.holds Try.pinned (OpenSpec.ofChange Rows.fnExactByNameSpec) :=
  OpenClaim.holds_of_wide 3 Try.f3 rfl rfl rfl rfl rfl rfl rfl ⟨rfl, rfl, rfl, rfl, rfl⟩ rfl rfl rfl rfl rfl (by kernel_rfl) Try.func3 (by kernel_rfl)
    (of_decide_eq_true (by kernel_rfl)) (by unfold Func.isWrapper; first | (rw [if_pos (by decide +kernel)]; kernel_rfl) | (rw [if_neg (by decide +kernel)]; exact ⟨rfl, rfl⟩))
    (fun os started H enc _ => lifted os started H enc)

theorem proved : Rows.FnExactByNameSaid := over
end Go.Proofs.Ythclogcbiekfeaa.fnExactByName
