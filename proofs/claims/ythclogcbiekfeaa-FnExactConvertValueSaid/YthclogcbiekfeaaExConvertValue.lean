/-
For every two classes of flags and every number the law on exact answers of ConvertValue returns true: the program's ConvertValue answers as its model does, and leaves its arguments as they were.
Conditions: none.
-/
import Derived.Test.YthclogcbiekfeaaFlagX
import Derived.Deep.DeepCutAuto
import Derived.Test.YthclogcbiekfeaaConvV
namespace Go.Proofs.Ythclogcbiekfeaa.fnExactConvertValue
open Go.ChangeShapes Go.WideShapes Go.ChangeAt Go.RowKit
open Go.ChangeMaps (open_string shut_string)
set_option linter.unusedVariables false
set_option maxRecDepth 100000

set_option maxHeartbeats 16000000 in
theorem walkV (Aa : Option Addr) (na ca : Nat) (dsa : List D) (ba : Int) (Ab : Option Addr) (nb cb : Nat) (dsb : List D) (bb : Int) (zc : Int) (r0 : Int) (r1 : Bool) (w : World) (hra : SD w w.heap.size Aa na ca dsa) (hrb : SD w w.heap.size Ab nb cb dsb)
    (SPC : Hid (∀ (Aa : Option Addr) (na ca : Nat) (Ab : Option Addr) (nb cb : Nat) (w : World), SD w w.heap.size Aa na ca dsa → na ≤ 1048576 → SD w w.heap.size Ab nb cb dsb → nb ≤ 1048576 → Calls Try.prog 39 #[.agg #[.slice Aa na ca, .int .i64 ba], .agg #[.slice Ab nb cb, .int .i64 bb], .int .i64 zc] w (fun e w' => e = .returned (.tuple #[.int .i64 r0, .bool r1]) ∧ Below w.heap.size w w')))
    (IMC : Hid (∀ (Aa : Option Addr) (na ca : Nat) (Ab : Option Addr) (nb cb : Nat) (w : World), SD w w.heap.size Aa na ca dsa → na ≤ 1048576 → SD w w.heap.size Ab nb cb dsb → nb ≤ 1048576 → Calls Try.prog 41 #[.agg #[.slice Aa na ca, .int .i64 ba], .agg #[.slice Ab nb cb, .int .i64 bb], .int .i64 zc] w (fun e w' => e = .returned (.tuple #[.int .i64 r0, .bool r1]) ∧ Below w.heap.size w w'))) :
    Calls Try.prog 9 #[.agg #[.slice Aa na ca, .int .i64 ba], .agg #[.slice Ab nb cb, .int .i64 bb], .int .i64 zc] w fun e w' => e = .returned (.bool true) ∧ Below w.heap.size w w' := by
  obtain ⟨w0, hw⟩ : ∃ W : World, W = ((w.alloc (.cells #[.slice Aa na ca, .int .i64 ba] 52)).alloc (.cells #[.slice Ab nb cb, .int .i64 bb] 52)) := ⟨_, rfl⟩
  have hb : Below w.heap.size w w0 := by rw [hw]; exact (((Below.refl _ _).alloc (by first | exact Nat.le_refl _ | (simp; done) | (simp; omega)) _).alloc (by first | exact Nat.le_refl _ | (simp; done) | (simp; omega)) _)
  have hs0 : w.heap.size + 2 ≤ w0.heap.size := by rw [hw]; simp
  have pa_0 : w0.cell? ⟨w.heap.size, 0, none⟩ = some (.slice Aa na ca) := by rw [hw]; simp [go_sem]
  have qa_0 : w0.cell? ⟨w.heap.size, 1, none⟩ = some (.int .i64 ba) := by rw [hw]; simp [go_sem]
  have HRa := Lib.hid hra
  clear hra
  have pb_0 : w0.cell? ⟨w.heap.size + 1, 0, none⟩ = some (.slice Ab nb cb) := by rw [hw]; simp [go_sem]
  have qb_0 : w0.cell? ⟨w.heap.size + 1, 1, none⟩ = some (.int .i64 bb) := by rw [hw]; simp [go_sem]
  have HRb := Lib.hid hrb
  clear hrb
  have HB_0 := Lib.hid hb
  have HW0 : Hid (((w.alloc (.cells #[.slice Aa na ca, .int .i64 ba] 52)).alloc (.cells #[.slice Ab nb cb, .int .i64 bb] 52)) = w0) := Lib.hid hw.symm
  clear hb hw
  go_enter Try.func9, Try.ntmps9
  go_wp2_with fail
  rw [HW0.out]
  refine (szFlag_any dsa ba Aa ca na 1048576 _ ((HRa.out.below HB_0.out).call HB_0.out.size) (by omega) (by omega)).mono ?_
  rintro e w1 ⟨ra, rfl, raa, rba, rca, hb⟩
  have hs1 : w0.heap.size ≤ w1.heap.size := hb.size
  have pa_1 := keep1 hb pa_0
  have qa_1 := keep1 hb qa_0
  have pb_1 := keep1 hb pb_0
  have qb_1 := keep1 hb qb_0
  have HB_1 : Hid (Below w.heap.size w w1) := Lib.hid (HB_0.out.trans (hb.mono HB_0.out.size))
  have HQa := Lib.hid rca
  clear hb rca pa_0 qa_0 pb_0 qb_0 HB_0
  by_cases hnega : ra < 0
  · go_wp2
    go_ret
    exact ⟨rfl, HB_1.out⟩
  have HNa : Hid (na ≤ 1048576) := Lib.hid (by have := HQa.out (by omega); omega)
  clear HQa
  go_wp2_with fail
  refine (szFlag_any dsb bb Ab cb nb ra _ ((HRb.out.below HB_1.out).call HB_1.out.size) (by omega) (by omega)).mono ?_
  rintro e w2 ⟨rb, rfl, rab, rbb, rcb, hb⟩
  have hs2 : w1.heap.size ≤ w2.heap.size := hb.size
  have pa_2 := keep1 hb pa_1
  have qa_2 := keep1 hb qa_1
  have pb_2 := keep1 hb pb_1
  have qb_2 := keep1 hb qb_1
  have HB_2 : Hid (Below w.heap.size w w2) := Lib.hid (HB_1.out.trans (hb.mono HB_1.out.size))
  have HQb := Lib.hid rcb
  clear hb rcb pa_1 qa_1 pb_1 qb_1 HB_1
  by_cases hnegb : rb < 0
  · go_wp2
    go_ret
    exact ⟨rfl, HB_2.out⟩
  have HNb : Hid (nb ≤ 1048576) := Lib.hid (by have := HQb.out (by omega); omega)
  clear HQb
  go_wp2_with fail
  have hsda : Hid (SD w2 w2.heap.size Aa na ca dsa) := Lib.hid ((HRa.out.below HB_2.out).call HB_2.out.size)
  have hsdb : Hid (SD w2 w2.heap.size Ab nb cb dsb) := Lib.hid ((HRb.out.below HB_2.out).call HB_2.out.size)
  go_region_held3 (fun w' => w'.cell? ⟨w.heap.size, 0, none⟩ = some (.slice Aa na ca) ∧ w'.cell? ⟨w.heap.size, 1, none⟩ = some (.int .i64 ba) ∧ w'.cell? ⟨w.heap.size + 1, 0, none⟩ = some (.slice Ab nb cb) ∧ w'.cell? ⟨w.heap.size + 1, 1, none⟩ = some (.int .i64 bb))
    (first | go_keep | exact ⟨pa_2, qa_2, pb_2, qb_2⟩ | exact ⟨v1_pa, v1_qa, v1_pb, v1_qb⟩ | exact ⟨v2_pa, v2_qa, v2_pb, v2_qb⟩ | exact ⟨v3_pa, v3_qa, v3_pb, v3_qb⟩)
    (first
      | (go_at_call_of 40 (Value.agg #[.slice Aa na ca, .int .i64 ba]); refine (toFlag_any dsa ba Aa ca na _ (by first | exact hsda.out | exact hsda.out.drew | exact hsda.out.drewN _) HNa.out).mono ?_; rintro e w3 ⟨gta, rfl, hoa, hb1⟩; replace hb1 : Below w2.heap.size w2 w3 := (by first | exact hb1 | exact undrew hb1); have v1_pa := keep1 hb1 pa_2; have v1_qa := keep1 hb1 qa_2; have v1_pb := keep1 hb1 pb_2; have v1_qb := keep1 hb1 qb_2)
      | (go_at_call_of 40 (Value.agg #[.slice Ab nb cb, .int .i64 bb]); refine (toFlag_any dsb bb Ab cb nb _ ((hsdb.out.below hb1).call hb1.size) HNb.out).mono ?_; rintro e w4 ⟨gtb, rfl, hob, hb2⟩; have hoa := own_below hoa hb2; have v2_pa := keep1 hb2 v1_pa; have v2_qa := keep1 hb2 v1_qa; have v2_pb := keep1 hb2 v1_pb; have v2_qb := keep1 hb2 v1_qb)
      | (go_at_call 39; refine (SPC.out _ _ _ _ _ _ _ (sd_of_own hoa HRa.out.ok) HNa.out (sd_of_own hob HRb.out.ok) HNb.out).mono ?_; rintro e w5 ⟨rfl, hb3⟩; have v3_pa := keep1 hb3 v2_pa; have v3_qa := keep1 hb3 v2_qa; have v3_pb := keep1 hb3 v2_pb; have v3_qb := keep1 hb3 v2_qb))
  have hbz : Below w2.heap.size w2 w5 := (hb1.trans (hb2.mono hb1.size)).trans (hb3.mono (hb1.trans (hb2.mono hb1.size)).size)
  have hs5 : w2.heap.size ≤ w5.heap.size := hbz.size
  have pa_5 := keep1 hbz pa_2
  have qa_5 := keep1 hbz qa_2
  have pb_5 := keep1 hbz pb_2
  have qb_5 := keep1 hbz qb_2
  have HB_5 : Hid (Below w.heap.size w w5) := Lib.hid (HB_2.out.trans (hbz.mono HB_2.out.size))
  clear hbz hb1 hb2 hb3 hoa hob hsda hsdb v1_pa v1_qa v1_pb v1_qb v2_pa v2_qa v2_pb v2_qb v3_pa v3_qa v3_pb v3_qb
  clear pa_2 qa_2 pb_2 qb_2 HB_2
  go_wp2_with fail
  refine (toFlag_any dsa ba Aa ca na _ ((HRa.out.below HB_5.out).call HB_5.out.size) HNa.out).mono ?_
  rintro e w6 ⟨gXa, rfl, ho, hb⟩
  have hs6 : w5.heap.size ≤ w6.heap.size := hb.size
  have pa_6 := keep1 hb pa_5
  have qa_6 := keep1 hb qa_5
  have pb_6 := keep1 hb pb_5
  have qb_6 := keep1 hb qb_5
  have HB_6 : Hid (Below w.heap.size w w6) := Lib.hid (HB_5.out.trans (hb.mono HB_5.out.size))
  have Xa_6 : Hid (w6.ownsRow w5.heap.size 76 2 (.slice (some ⟨gXa, 0, none⟩) na na) na (flat dsa)) := Lib.hid ho
  have XaL : Hid (∀ q, (Value.slice (some ⟨gXa, 0, none⟩) na na).ownBlock = some q → w5.heap.size ≤ q ∧ q < w6.heap.size) := Lib.hid (fun q hq => ho.lt q hq)
  clear ho hb pa_5 qa_5 pb_5 qb_5 HB_5
  obtain ⟨w7, hw⟩ : ∃ W : World, W = (w6.alloc (.cells #[.slice (some ⟨gXa, 0, none⟩) na na, .int .i64 ba] 38)) := ⟨_, rfl⟩
  have hb : Below w6.heap.size w6 w7 := by rw [hw]; exact (Below.refl _ _).alloc (Nat.le_refl _) _
  have hs7 : w6.heap.size + 1 ≤ w7.heap.size := by rw [hw]; simp
  have pa_7 := keep1 hb pa_6
  have qa_7 := keep1 hb qa_6
  have pb_7 := keep1 hb pb_6
  have qb_7 := keep1 hb qb_6
  have Xa_7 := Lib.hid (own_below Xa_6.out hb)
  have HB_7 : Hid (Below w.heap.size w w7) := Lib.hid (HB_6.out.trans (hb.mono HB_6.out.size))
  have xa_7 : w7.cell? ⟨w6.heap.size, 0, none⟩ = some (.slice (some ⟨gXa, 0, none⟩) na na) := by rw [hw]; simp [go_sem]
  have xab_7 : w7.cell? ⟨w6.heap.size, 1, none⟩ = some (.int .i64 ba) := by rw [hw]; simp [go_sem]
  have lf_pa : (w6.alloc (.cells #[.slice (some ⟨gXa, 0, none⟩) na na, .int .i64 ba] 38)).cell? ⟨w.heap.size, 0, none⟩ = some (.slice Aa na ca) := by rw [← hw]; exact pa_7
  have lf_qa : (w6.alloc (.cells #[.slice (some ⟨gXa, 0, none⟩) na na, .int .i64 ba] 38)).cell? ⟨w.heap.size, 1, none⟩ = some (.int .i64 ba) := by rw [← hw]; exact qa_7
  have lf_pb : (w6.alloc (.cells #[.slice (some ⟨gXa, 0, none⟩) na na, .int .i64 ba] 38)).cell? ⟨w.heap.size + 1, 0, none⟩ = some (.slice Ab nb cb) := by rw [← hw]; exact pb_7
  have lf_qb : (w6.alloc (.cells #[.slice (some ⟨gXa, 0, none⟩) na na, .int .i64 ba] 38)).cell? ⟨w.heap.size + 1, 1, none⟩ = some (.int .i64 bb) := by rw [← hw]; exact qb_7
  have lf_xa : (w6.alloc (.cells #[.slice (some ⟨gXa, 0, none⟩) na na, .int .i64 ba] 38)).cell? ⟨w6.heap.size, 0, none⟩ = some (.slice (some ⟨gXa, 0, none⟩) na na) := by rw [← hw]; exact xa_7
  have lf_xab : (w6.alloc (.cells #[.slice (some ⟨gXa, 0, none⟩) na na, .int .i64 ba] 38)).cell? ⟨w6.heap.size, 1, none⟩ = some (.int .i64 ba) := by rw [← hw]; exact xab_7
  have HW7 : Hid ((w6.alloc (.cells #[.slice (some ⟨gXa, 0, none⟩) na na, .int .i64 ba] 38)) = w7) := Lib.hid hw.symm
  clear hb hw pa_6 qa_6 pb_6 qb_6 Xa_6 HB_6
  go_wp2_with fail
  rw [HW7.out]
  clear lf_pa lf_qa lf_pb lf_qb lf_xa lf_xab
  refine (toFlag_any dsb bb Ab cb nb _ ((HRb.out.below HB_7.out).call HB_7.out.size) HNb.out).mono ?_
  rintro e w8 ⟨gXb, rfl, ho, hb⟩
  have hs8 : w7.heap.size ≤ w8.heap.size := hb.size
  have pa_8 := keep1 hb pa_7
  have qa_8 := keep1 hb qa_7
  have pb_8 := keep1 hb pb_7
  have qb_8 := keep1 hb qb_7
  have xa_8 := keep1 hb xa_7
  have xab_8 := keep1 hb xab_7
  have Xa_8 := Lib.hid (own_below Xa_7.out hb)
  have HB_8 : Hid (Below w.heap.size w w8) := Lib.hid (HB_7.out.trans (hb.mono HB_7.out.size))
  have Xb_8 : Hid (w8.ownsRow w7.heap.size 76 2 (.slice (some ⟨gXb, 0, none⟩) nb nb) nb (flat dsb)) := Lib.hid ho
  have XbL : Hid (∀ q, (Value.slice (some ⟨gXb, 0, none⟩) nb nb).ownBlock = some q → w7.heap.size ≤ q ∧ q < w8.heap.size) := Lib.hid (fun q hq => ho.lt q hq)
  clear ho hb pa_7 qa_7 pb_7 qb_7 xa_7 xab_7 Xa_7 HB_7
  obtain ⟨w9, hw⟩ : ∃ W : World, W = (w8.alloc (.cells #[.slice (some ⟨gXb, 0, none⟩) nb nb, .int .i64 bb] 38)) := ⟨_, rfl⟩
  have hb : Below w8.heap.size w8 w9 := by rw [hw]; exact (Below.refl _ _).alloc (Nat.le_refl _) _
  have hs9 : w8.heap.size + 1 ≤ w9.heap.size := by rw [hw]; simp
  have pa_9 := keep1 hb pa_8
  have qa_9 := keep1 hb qa_8
  have pb_9 := keep1 hb pb_8
  have qb_9 := keep1 hb qb_8
  have xa_9 := keep1 hb xa_8
  have xab_9 := keep1 hb xab_8
  have Xa_9 := Lib.hid (own_below Xa_8.out hb)
  have Xb_9 := Lib.hid (own_below Xb_8.out hb)
  have HB_9 : Hid (Below w.heap.size w w9) := Lib.hid (HB_8.out.trans (hb.mono HB_8.out.size))
  have xb_9 : w9.cell? ⟨w8.heap.size, 0, none⟩ = some (.slice (some ⟨gXb, 0, none⟩) nb nb) := by rw [hw]; simp [go_sem]
  have xbb_9 : w9.cell? ⟨w8.heap.size, 1, none⟩ = some (.int .i64 bb) := by rw [hw]; simp [go_sem]
  have lf_pa : (w8.alloc (.cells #[.slice (some ⟨gXb, 0, none⟩) nb nb, .int .i64 bb] 38)).cell? ⟨w.heap.size, 0, none⟩ = some (.slice Aa na ca) := by rw [← hw]; exact pa_9
  have lf_qa : (w8.alloc (.cells #[.slice (some ⟨gXb, 0, none⟩) nb nb, .int .i64 bb] 38)).cell? ⟨w.heap.size, 1, none⟩ = some (.int .i64 ba) := by rw [← hw]; exact qa_9
  have lf_pb : (w8.alloc (.cells #[.slice (some ⟨gXb, 0, none⟩) nb nb, .int .i64 bb] 38)).cell? ⟨w.heap.size + 1, 0, none⟩ = some (.slice Ab nb cb) := by rw [← hw]; exact pb_9
  have lf_qb : (w8.alloc (.cells #[.slice (some ⟨gXb, 0, none⟩) nb nb, .int .i64 bb] 38)).cell? ⟨w.heap.size + 1, 1, none⟩ = some (.int .i64 bb) := by rw [← hw]; exact qb_9
  have lf_xa : (w8.alloc (.cells #[.slice (some ⟨gXb, 0, none⟩) nb nb, .int .i64 bb] 38)).cell? ⟨w6.heap.size, 0, none⟩ = some (.slice (some ⟨gXa, 0, none⟩) na na) := by rw [← hw]; exact xa_9
  have lf_xab : (w8.alloc (.cells #[.slice (some ⟨gXb, 0, none⟩) nb nb, .int .i64 bb] 38)).cell? ⟨w6.heap.size, 1, none⟩ = some (.int .i64 ba) := by rw [← hw]; exact xab_9
  have lf_xb : (w8.alloc (.cells #[.slice (some ⟨gXb, 0, none⟩) nb nb, .int .i64 bb] 38)).cell? ⟨w8.heap.size, 0, none⟩ = some (.slice (some ⟨gXb, 0, none⟩) nb nb) := by rw [← hw]; exact xb_9
  have lf_xbb : (w8.alloc (.cells #[.slice (some ⟨gXb, 0, none⟩) nb nb, .int .i64 bb] 38)).cell? ⟨w8.heap.size, 1, none⟩ = some (.int .i64 bb) := by rw [← hw]; exact xbb_9
  have HW9 : Hid ((w8.alloc (.cells #[.slice (some ⟨gXb, 0, none⟩) nb nb, .int .i64 bb] 38)) = w9) := Lib.hid hw.symm
  clear hb hw pa_8 qa_8 pb_8 qb_8 xa_8 xab_8 Xa_8 Xb_8 HB_8
  go_wp2_with fail
  rw [HW9.out]
  clear lf_pa lf_qa lf_pb lf_qb lf_xa lf_xab lf_xb lf_xbb
  refine (IMC.out _ _ _ _ _ _ _ (sd_of_own Xa_9.out HRa.out.ok) HNa.out (sd_of_own Xb_9.out HRb.out.ok) HNb.out).mono ?_
  rintro e w10 ⟨rfl, hb⟩
  have hs10 : w9.heap.size ≤ w10.heap.size := hb.size
  have pa_10 := keep1 hb pa_9
  have qa_10 := keep1 hb qa_9
  have pb_10 := keep1 hb pb_9
  have qb_10 := keep1 hb qb_9
  have xa_10 := keep1 hb xa_9
  have xab_10 := keep1 hb xab_9
  have xb_10 := keep1 hb xb_9
  have xbb_10 := keep1 hb xbb_9
  have Xa_10 := Lib.hid (own_below Xa_9.out hb)
  have Xb_10 := Lib.hid (own_below Xb_9.out hb)
  have HB_10 : Hid (Below w.heap.size w w10) := Lib.hid (HB_9.out.trans (hb.mono HB_9.out.size))
  clear hb  pa_9 qa_9 pb_9 qb_9 xa_9 xab_9 xb_9 xbb_9 Xa_9 Xb_9 HB_9
  go_wp2_with fail
  have hsd : Hid (SD w10 w10.heap.size Aa na ca dsa) := Lib.hid ((HRa.out.below HB_10.out).call HB_10.out.size)
  go_region_held3 (fun w' => w'.cell? ⟨w.heap.size, 0, none⟩ = some (.slice Aa na ca) ∧ w'.cell? ⟨w.heap.size, 1, none⟩ = some (.int .i64 ba) ∧ w'.cell? ⟨w6.heap.size, 0, none⟩ = some (.slice (some ⟨gXa, 0, none⟩) na na) ∧ w'.cell? ⟨w6.heap.size, 1, none⟩ = some (.int .i64 ba))
    (first
      | go_keep
      | exact ⟨y0, y1, y2, y3⟩ | exact ⟨z0, z1, z2, z3⟩)
    (first
      | (go_at_call 40; refine (toFlag_any dsa ba Aa ca na _ (by first | exact hsd.out | exact hsd.out.drew | exact hsd.out.drewN _) HNa.out).mono ?_; rintro e w11 ⟨gt, rfl, ho, hb⟩; replace hb : Below w10.heap.size w10 w11 := (by first | exact hb | exact undrew hb); have y0 := keep1 hb pa_10; have y1 := keep1 hb qa_10; have y2 := keep1 hb xa_10; have y3 := keep1 hb xab_10)
      | (go_at_call 26; refine (eqFlag_any dsa ba _ _ _ _ _ _ _ (by first | exact sd_of_own (own_below Xa_10.out hb) HRa.out.ok | exact (sd_of_own (own_below Xa_10.out hb) HRa.out.ok).drew) (by first | exact sd_of_own ho HRa.out.ok | exact (sd_of_own ho HRa.out.ok).drew)).mono ?_; rintro e w12 ⟨rfl, hb2⟩; replace hb2 : Below w11.heap.size w11 w12 := (by first | exact hb2 | exact undrew hb2); have z0 := keep1 hb2 y0; have z1 := keep1 hb2 y1; have z2 := keep1 hb2 y2; have z3 := keep1 hb2 y3))
  have hb3 : Below w10.heap.size w10 w12 := hb.trans (hb2.mono hb.size)
  have hs12 : w10.heap.size ≤ w12.heap.size := hb3.size
  have pa_12 := keep1 hb3 pa_10
  have qa_12 := keep1 hb3 qa_10
  have pb_12 := keep1 hb3 pb_10
  have qb_12 := keep1 hb3 qb_10
  have xa_12 := keep1 hb3 xa_10
  have xab_12 := keep1 hb3 xab_10
  have xb_12 := keep1 hb3 xb_10
  have xbb_12 := keep1 hb3 xbb_10
  have Xa_12 := Lib.hid (own_below Xa_10.out hb3)
  have Xb_12 := Lib.hid (own_below Xb_10.out hb3)
  have HB_12 : Hid (Below w.heap.size w w12) := Lib.hid (HB_10.out.trans (hb3.mono HB_10.out.size))
  clear hb hb2 hb3 ho y0 z0 y1 z1 y2 z2 y3 z3 hsd pa_10 qa_10 pb_10 qb_10 xa_10 xab_10 xb_10 xbb_10 Xa_10 Xb_10 HB_10
  go_wp2_with fail
  have hsd : Hid (SD w12 w12.heap.size Ab nb cb dsb) := Lib.hid ((HRb.out.below HB_12.out).call HB_12.out.size)
  go_region_held3 (fun w' => w'.cell? ⟨w.heap.size + 1, 0, none⟩ = some (.slice Ab nb cb) ∧ w'.cell? ⟨w.heap.size + 1, 1, none⟩ = some (.int .i64 bb) ∧ w'.cell? ⟨w8.heap.size, 0, none⟩ = some (.slice (some ⟨gXb, 0, none⟩) nb nb) ∧ w'.cell? ⟨w8.heap.size, 1, none⟩ = some (.int .i64 bb))
    (first
      | go_keep
      | exact ⟨y0, y1, y2, y3⟩ | exact ⟨z0, z1, z2, z3⟩)
    (first
      | (go_at_call 40; refine (toFlag_any dsb bb Ab cb nb _ (by first | exact hsd.out | exact hsd.out.drew | exact hsd.out.drewN _) HNb.out).mono ?_; rintro e w13 ⟨gt, rfl, ho, hb⟩; replace hb : Below w12.heap.size w12 w13 := (by first | exact hb | exact undrew hb); have y0 := keep1 hb pb_12; have y1 := keep1 hb qb_12; have y2 := keep1 hb xb_12; have y3 := keep1 hb xbb_12)
      | (go_at_call 26; refine (eqFlag_any dsb bb _ _ _ _ _ _ _ (by first | exact sd_of_own (own_below Xb_12.out hb) HRb.out.ok | exact (sd_of_own (own_below Xb_12.out hb) HRb.out.ok).drew) (by first | exact sd_of_own ho HRb.out.ok | exact (sd_of_own ho HRb.out.ok).drew)).mono ?_; rintro e w14 ⟨rfl, hb2⟩; replace hb2 : Below w13.heap.size w13 w14 := (by first | exact hb2 | exact undrew hb2); have z0 := keep1 hb2 y0; have z1 := keep1 hb2 y1; have z2 := keep1 hb2 y2; have z3 := keep1 hb2 y3))
  have hb3 : Below w12.heap.size w12 w14 := hb.trans (hb2.mono hb.size)
  have hs14 : w12.heap.size ≤ w14.heap.size := hb3.size
  have pa_14 := keep1 hb3 pa_12
  have qa_14 := keep1 hb3 qa_12
  have pb_14 := keep1 hb3 pb_12
  have qb_14 := keep1 hb3 qb_12
  have xa_14 := keep1 hb3 xa_12
  have xab_14 := keep1 hb3 xab_12
  have xb_14 := keep1 hb3 xb_12
  have xbb_14 := keep1 hb3 xbb_12
  have Xa_14 := Lib.hid (own_below Xa_12.out hb3)
  have Xb_14 := Lib.hid (own_below Xb_12.out hb3)
  have HB_14 : Hid (Below w.heap.size w w14) := Lib.hid (HB_12.out.trans (hb3.mono HB_12.out.size))
  clear hb hb2 hb3 ho y0 z0 y1 z1 y2 z2 y3 z3 hsd pa_12 qa_12 pb_12 qb_12 xa_12 xab_12 xb_12 xbb_12 Xa_12 Xb_12 HB_12
  go_wp2
  go_ret
  exact ⟨rfl, HB_14.out⟩

theorem walk (Aa : Option Addr) (na ca : Nat) (dsa : List D) (ba : Int) (Ab : Option Addr) (nb cb : Nat) (dsb : List D) (bb : Int) (zc : Int) (w : World) (hra : SD w w.heap.size Aa na ca dsa) (hba : -9223372036854775808 ≤ ba ∧ ba ≤ 9223372036854775807) (hrb : SD w w.heap.size Ab nb cb dsb) (hbb : -9223372036854775808 ≤ bb ∧ bb ≤ 9223372036854775807) (hzc : -9223372036854775808 ≤ zc ∧ zc ≤ 9223372036854775807) :
    Calls Try.prog 9 #[.agg #[.slice Aa na ca, .int .i64 ba], .agg #[.slice Ab nb cb, .int .i64 bb], .int .i64 zc] w fun e w' => e = .returned (.bool true) ∧ Below w.heap.size w w' := by
  exact walkV Aa na ca dsa ba Ab nb cb dsb bb zc (mConv dsa ba dsb bb zc) (cvOk dsa ba dsb bb zc) w hra hrb (Lib.hid fun A n c A2 n2 c2 w h hn h2 hn2 => specConv_v dsa dsb ba bb zc A A2 n c n2 c2 w h h2 rfl rfl) (Lib.hid fun A n c A2 n2 c2 w h hn h2 hn2 => implConv_v dsa dsb ba bb zc A A2 n c n2 c2 w h h2 hn hn2 rfl rfl)

set_option maxRecDepth 100000 in
theorem lifted (os : Os) (started : os.Started) (H : Type) (enc : TypeId × Value → H) :
    ReturnsInHanded {} Try.checked os 9 .any (Rows.fnExactConvertValueSpec.pre6 enc Try.prog Try.f9 Rows.fnExactConvertValueRow.domain false) (Rows.fnExactConvertValueSpec.post enc Try.prog Try.f9 false true false false) := by
  refine returnsInHanded_of_change (C := Try.checked) own started (by kernel_rfl) Try.func9
    (ChangeSpec.witness6 (enc := enc) (C := Try.checked) false ⟨#[], #[.agg #[.slice none 0 0, .int .i64 0], .agg #[.slice none 0 0, .int .i64 0], .int .i64 0], []⟩ 8 (by kernel_rfl) (by kernel_rfl) (by kernel_rfl) (by kernel_rfl)) ?_
  intro W base args ds gs before hval0 hW hcnd _
  have hval : ∀ (j : Nat) t v, Try.f9.params[j]? = some t → args[j]? = some v → Value.okWide Try.prog W .any base t v := hval0
  have hW' := hW
  obtain ⟨p, q, hA0, hV, rfl, hfz, hnd⟩ := hW
  have hA : DataW.TrodAll enc Try.prog W 0 (fun _ => true) true Try.f9.params.toList args.toList ds p := hA0
  rw [Try.params9] at hA hval
  obtain ⟨v0, vs0, d0, ds0, p0, q0, hargs, rfl, rfl, h0, r0⟩ := trodAll_cons hA
  obtain ⟨v1, vs1, d1, ds1, p1, q1, rfl, rfl, rfl, h1, r1⟩ := trodAll_cons r0
  obtain ⟨v2, vs2, d2, ds2, p2, q2, rfl, rfl, rfl, h2, r2⟩ := trodAll_cons r1
  obtain ⟨rfl, rfl, rfl⟩ := trodAll_nil r2
  obtain rfl : args = #[v0, v1, v2] := by cases args; simp_all
  obtain ⟨rfl, rfl⟩ := trodVars_none hV
  have k0 := h0
  have lt0 : ∀ x ∈ p0, x.block < W.heap.size := by obtain ⟨m, hm⟩ := k0; exact DataW.trod_lt m _ _ _ hm
  obtain ⟨A0, n0, c0, l0, b0, rfl, w0, wb0⟩ := open_flag (hval 0 52 v0 rfl rfl) h0
  have k1 := h1
  have lt1 : ∀ x ∈ p1, x.block < W.heap.size := by obtain ⟨m, hm⟩ := k1; exact DataW.trod_lt m _ _ _ hm
  obtain ⟨A1, n1, c1, l1, b1, rfl, w1, wb1⟩ := open_flag (hval 1 52 v1 rfl rfl) h1
  obtain ⟨a2, rfl, rfl, rfl, w2⟩ := open_int Try.underlying3 (hval 2 3 v2 rfl rfl) h2
  clear hA0 hval0
  refine (walk A0 n0 c0 l0 b0 A1 n1 c1 l1 b1 a2 W w0 wb0 w1 wb1 (wf_bounds w2)).mono fun e W' ⟨he, bel⟩ => ?_
  subst he
  exact ⟨_, rfl, _, _, _, [], _, [], hW', trodAll_mk1 (shut_bool Try.underlying4 _), (trodAll_cons_mk (Below.trod laidOut (by kernel_rfl) (of_decide_eq_true (by kernel_rfl)) k0 bel lt0) (trodAll_cons_mk (Below.trod laidOut (by kernel_rfl) (of_decide_eq_true (by kernel_rfl)) k1 bel lt1) (trodAll_cons_mk (shut_int Try.underlying3 w2) trodAll_mk0))), rfl, bel.frame _, fun h => by cases h⟩

theorem over : Rows.fnExactConvertValueRow.holds Try.pinned (OpenSpec.ofChange Rows.fnExactConvertValueSpec) :=
  OpenClaim.holds_of_wide 9 Try.f9 rfl rfl rfl rfl rfl rfl rfl ⟨rfl, rfl, rfl, rfl, rfl⟩ rfl rfl rfl rfl rfl (by kernel_rfl) Try.func9 (by kernel_rfl)
    (of_decide_eq_true (by kernel_rfl)) (by unfold Func.isWrapper; first | (rw [if_pos (by decide +kernel)]; kernel_rfl) | (rw [if_neg (by decide +kernel)]; exact ⟨rfl, rfl⟩))
    (fun os started H enc _ => lifted os started H enc)

theorem proved : Rows.FnExactConvertValueSaid := over
end Go.Proofs.Ythclogcbiekfeaa.fnExactConvertValue
