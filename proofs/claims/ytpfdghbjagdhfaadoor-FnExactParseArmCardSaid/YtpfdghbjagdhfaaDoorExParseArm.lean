/-
For every class of flags and every text the law on exact answers of ParseArm returns true: the program's ParseArm answers as its model does, and leaves its arguments as they were.
Conditions: none.
-/
import Derived.Test.YtpfdghbjagdhfaaDoorFlagX
import Derived.Deep.DeepCutAuto
import Derived.Test.YtpfdghbjagdhfaaDoorArmD
import Derived.Test.YtpfdghbjagdhfaaDoorParT
import Derived.Test.YtpfdghbjagdhfaaDoorParJ
import Derived.Test.YtpfdghbjagdhfaaDoorArmsC
namespace Go.Proofs.YtpfdghbjagdhfaaDoor.fnExactParseArm
open Go.ChangeShapes Go.WideShapes Go.ChangeAt Go.RowKit
open Go.ChangeMaps (open_string shut_string)
set_option linter.unusedVariables false
set_option maxRecDepth 100000

set_option maxHeartbeats 16000000 in
theorem walkV (Aa : Option Addr) (na ca : Nat) (dsa : List D) (ba : Int) (sb : ByteArray) (rx ry : Nat) (ok : Bool) (w : World) (hra : SD w w.heap.size Aa na ca dsa) (hsb : sb.size ≤ maxLen)
    (SPC : Hid (∀ (Aa : Option Addr) (na ca : Nat) (w : World), SD w w.heap.size Aa na ca dsa → na ≤ 1048576 → sb.size ≤ 1048576 → Calls Tryd.prog 13 #[.agg #[.slice Aa na ca, .int .i64 ba], .string sb] w (fun e w' => e = .returned (.tuple #[.agg #[.int .i64 rx, .int .i64 ry], .bool ok]) ∧ Below w.heap.size w w')))
    (IMC : Hid (∀ (Aa : Option Addr) (na ca : Nat) (w : World), SD w w.heap.size Aa na ca dsa → na ≤ 1048576 → sb.size ≤ 1048576 → Tb w w.heap.size → Calls Tryd.prog 15 #[.agg #[.slice Aa na ca, .int .i64 ba], .string sb] w (fun e w' => e = .returned (.tuple #[.agg #[.int .i64 rx, .int .i64 ry], .bool ok]) ∧ Below w.heap.size w w'))) (hTAB : Hid (Tb w w.heap.size)) :
    Calls Tryd.prog 3 #[.agg #[.slice Aa na ca, .int .i64 ba], .string sb] w fun e w' => e = .returned (.bool true) ∧ Below w.heap.size w w' := by
  obtain ⟨w0, hw⟩ : ∃ W : World, W = (w.alloc (.cells #[.slice Aa na ca, .int .i64 ba] 24)) := ⟨_, rfl⟩
  have hb : Below w.heap.size w w0 := by rw [hw]; exact ((Below.refl _ _).alloc (by first | exact Nat.le_refl _ | (simp; done) | (simp; omega)) _)
  have hs0 : w.heap.size + 1 ≤ w0.heap.size := by rw [hw]; simp
  have pa_0 : w0.cell? ⟨w.heap.size, 0, none⟩ = some (.slice Aa na ca) := by rw [hw]; simp [go_sem]
  have qa_0 : w0.cell? ⟨w.heap.size, 1, none⟩ = some (.int .i64 ba) := by rw [hw]; simp [go_sem]
  have HRa := Lib.hid hra
  clear hra
  have HB_0 := Lib.hid hb
  have HW0 : Hid ((w.alloc (.cells #[.slice Aa na ca, .int .i64 ba] 24)) = w0) := Lib.hid hw.symm
  clear hb hw
  unfold maxLen at hsb
  by_cases hbigb : 1048576 < (sb.size : Int)
  · go_enter Tryd.func3, Tryd.ntmps3
    go_wp2
    go_ret
    rw [HW0.out]
    exact ⟨rfl, HB_0.out⟩
  go_enter Tryd.func3, Tryd.ntmps3
  go_wp2_with fail
  rw [HW0.out]
  refine (szFlag_any dsa ba Aa ca na 1048576 _ ((HRa.out.below HB_0.out).call HB_0.out.size) (by omega) (by omega)).mono ?_
  rintro e w1 ⟨ra, rfl, raa, rba, rca, hb⟩
  have hs1 : w0.heap.size ≤ w1.heap.size := hb.size
  have pa_1 := keep1 hb pa_0
  have qa_1 := keep1 hb qa_0
  have HB_1 : Hid (Below w.heap.size w w1) := Lib.hid (HB_0.out.trans (hb.mono HB_0.out.size))
  have HQa := Lib.hid rca
  clear hb rca pa_0 qa_0 HB_0
  by_cases hnega : ra < 0
  · go_wp2
    go_ret
    exact ⟨rfl, HB_1.out⟩
  have HNa : Hid (na ≤ 1048576) := Lib.hid (by have := HQa.out (by omega); omega)
  clear HQa
  go_wp2_with fail
  refine (toFlag_any dsa ba Aa ca na _ ((HRa.out.below HB_1.out).call HB_1.out.size) HNa.out).mono ?_
  rintro e w2 ⟨gTa, rfl, ho, hb⟩
  have hs2 : w1.heap.size ≤ w2.heap.size := hb.size
  have pa_2 := keep1 hb pa_1
  have qa_2 := keep1 hb qa_1
  have HB_2 : Hid (Below w.heap.size w w2) := Lib.hid (HB_1.out.trans (hb.mono HB_1.out.size))
  have Ta_2 : Hid (w2.ownsRow w1.heap.size 98 2 (.slice (some ⟨gTa, 0, none⟩) na na) na (flat dsa)) := Lib.hid ho
  have TaL : Hid (∀ q, (Value.slice (some ⟨gTa, 0, none⟩) na na).ownBlock = some q → w1.heap.size ≤ q ∧ q < w2.heap.size) := Lib.hid (fun q hq => ho.lt q hq)
  clear ho hb pa_1 qa_1 HB_1
  go_wp2_with fail
  refine (SPC.out _ _ _ _ (sd_of_own Ta_2.out HRa.out.ok) HNa.out (by omega)).mono ?_
  rintro e w3 ⟨rfl, hb⟩
  have hs3 : w2.heap.size ≤ w3.heap.size := hb.size
  have pa_3 := keep1 hb pa_2
  have qa_3 := keep1 hb qa_2
  have Ta_3 := Lib.hid (own_below Ta_2.out hb)
  have HB_3 : Hid (Below w.heap.size w w3) := Lib.hid (HB_2.out.trans (hb.mono HB_2.out.size))
  clear hb  pa_2 qa_2 Ta_2 HB_2
  obtain ⟨w4, hw⟩ : ∃ W : World, W = (w3.alloc (.cells #[.int .i64 (rx : Int), .int .i64 (ry : Int)] 27)) := ⟨_, rfl⟩
  have hb : Below w3.heap.size w3 w4 := by rw [hw]; exact (Below.refl _ _).alloc (Nat.le_refl _) _
  have hs4 : w3.heap.size + 1 ≤ w4.heap.size := by rw [hw]; simp
  have pa_4 := keep1 hb pa_3
  have qa_4 := keep1 hb qa_3
  have Ta_4 := Lib.hid (own_below Ta_3.out hb)
  have HB_4 : Hid (Below w.heap.size w w4) := Lib.hid (HB_3.out.trans (hb.mono HB_3.out.size))
  have cw_4 : w4.cell? ⟨w3.heap.size, 0, none⟩ = some (.int .i64 (rx : Int)) := by rw [hw]; simp [go_sem]
  have cwb_4 : w4.cell? ⟨w3.heap.size, 1, none⟩ = some (.int .i64 (ry : Int)) := by rw [hw]; simp [go_sem]
  have lf_pa : (w3.alloc (.cells #[.int .i64 (rx : Int), .int .i64 (ry : Int)] 27)).cell? ⟨w.heap.size, 0, none⟩ = some (.slice Aa na ca) := by rw [← hw]; exact pa_4
  have lf_qa : (w3.alloc (.cells #[.int .i64 (rx : Int), .int .i64 (ry : Int)] 27)).cell? ⟨w.heap.size, 1, none⟩ = some (.int .i64 ba) := by rw [← hw]; exact qa_4
  have lf_cw : (w3.alloc (.cells #[.int .i64 (rx : Int), .int .i64 (ry : Int)] 27)).cell? ⟨w3.heap.size, 0, none⟩ = some (.int .i64 (rx : Int)) := by rw [← hw]; exact cw_4
  have lf_cwb : (w3.alloc (.cells #[.int .i64 (rx : Int), .int .i64 (ry : Int)] 27)).cell? ⟨w3.heap.size, 1, none⟩ = some (.int .i64 (ry : Int)) := by rw [← hw]; exact cwb_4
  have HW4 : Hid ((w3.alloc (.cells #[.int .i64 (rx : Int), .int .i64 (ry : Int)] 27)) = w4) := Lib.hid hw.symm
  clear hb hw pa_3 qa_3 Ta_3 HB_3
  clear Ta_4
  go_wp2_with fail
  rw [HW4.out]
  clear lf_pa lf_qa lf_cw lf_cwb
  refine (toFlag_any dsa ba Aa ca na _ ((HRa.out.below HB_4.out).call HB_4.out.size) HNa.out).mono ?_
  rintro e w5 ⟨gXa, rfl, ho, hb⟩
  have hs5 : w4.heap.size ≤ w5.heap.size := hb.size
  have pa_5 := keep1 hb pa_4
  have qa_5 := keep1 hb qa_4
  have cw_5 := keep1 hb cw_4
  have cwb_5 := keep1 hb cwb_4
  have HB_5 : Hid (Below w.heap.size w w5) := Lib.hid (HB_4.out.trans (hb.mono HB_4.out.size))
  have Xa_5 : Hid (w5.ownsRow w4.heap.size 98 2 (.slice (some ⟨gXa, 0, none⟩) na na) na (flat dsa)) := Lib.hid ho
  have XaL : Hid (∀ q, (Value.slice (some ⟨gXa, 0, none⟩) na na).ownBlock = some q → w4.heap.size ≤ q ∧ q < w5.heap.size) := Lib.hid (fun q hq => ho.lt q hq)
  clear ho hb pa_4 qa_4 cw_4 cwb_4 HB_4
  obtain ⟨w6, hw⟩ : ∃ W : World, W = (w5.alloc (.cells #[.slice (some ⟨gXa, 0, none⟩) na na, .int .i64 ba] 32)) := ⟨_, rfl⟩
  have hb : Below w5.heap.size w5 w6 := by rw [hw]; exact (Below.refl _ _).alloc (Nat.le_refl _) _
  have hs6 : w5.heap.size + 1 ≤ w6.heap.size := by rw [hw]; simp
  have pa_6 := keep1 hb pa_5
  have qa_6 := keep1 hb qa_5
  have cw_6 := keep1 hb cw_5
  have cwb_6 := keep1 hb cwb_5
  have Xa_6 := Lib.hid (own_below Xa_5.out hb)
  have HB_6 : Hid (Below w.heap.size w w6) := Lib.hid (HB_5.out.trans (hb.mono HB_5.out.size))
  have xa_6 : w6.cell? ⟨w5.heap.size, 0, none⟩ = some (.slice (some ⟨gXa, 0, none⟩) na na) := by rw [hw]; simp [go_sem]
  have xab_6 : w6.cell? ⟨w5.heap.size, 1, none⟩ = some (.int .i64 ba) := by rw [hw]; simp [go_sem]
  have lf_pa : (w5.alloc (.cells #[.slice (some ⟨gXa, 0, none⟩) na na, .int .i64 ba] 32)).cell? ⟨w.heap.size, 0, none⟩ = some (.slice Aa na ca) := by rw [← hw]; exact pa_6
  have lf_qa : (w5.alloc (.cells #[.slice (some ⟨gXa, 0, none⟩) na na, .int .i64 ba] 32)).cell? ⟨w.heap.size, 1, none⟩ = some (.int .i64 ba) := by rw [← hw]; exact qa_6
  have lf_cw : (w5.alloc (.cells #[.slice (some ⟨gXa, 0, none⟩) na na, .int .i64 ba] 32)).cell? ⟨w3.heap.size, 0, none⟩ = some (.int .i64 (rx : Int)) := by rw [← hw]; exact cw_6
  have lf_cwb : (w5.alloc (.cells #[.slice (some ⟨gXa, 0, none⟩) na na, .int .i64 ba] 32)).cell? ⟨w3.heap.size, 1, none⟩ = some (.int .i64 (ry : Int)) := by rw [← hw]; exact cwb_6
  have lf_xa : (w5.alloc (.cells #[.slice (some ⟨gXa, 0, none⟩) na na, .int .i64 ba] 32)).cell? ⟨w5.heap.size, 0, none⟩ = some (.slice (some ⟨gXa, 0, none⟩) na na) := by rw [← hw]; exact xa_6
  have lf_xab : (w5.alloc (.cells #[.slice (some ⟨gXa, 0, none⟩) na na, .int .i64 ba] 32)).cell? ⟨w5.heap.size, 1, none⟩ = some (.int .i64 ba) := by rw [← hw]; exact xab_6
  have HW6 : Hid ((w5.alloc (.cells #[.slice (some ⟨gXa, 0, none⟩) na na, .int .i64 ba] 32)) = w6) := Lib.hid hw.symm
  clear hb hw pa_5 qa_5 cw_5 cwb_5 Xa_5 HB_5
  go_wp2_with fail
  rw [HW6.out]
  clear lf_pa lf_qa lf_cw lf_cwb lf_xa lf_xab
  refine (IMC.out _ _ _ _ (sd_of_own Xa_6.out HRa.out.ok) HNa.out (by omega) ((hTAB.out.below HB_6.out).call HB_6.out.size)).mono ?_
  rintro e w7 ⟨rfl, hb⟩
  have hs7 : w6.heap.size ≤ w7.heap.size := hb.size
  have pa_7 := keep1 hb pa_6
  have qa_7 := keep1 hb qa_6
  have cw_7 := keep1 hb cw_6
  have cwb_7 := keep1 hb cwb_6
  have xa_7 := keep1 hb xa_6
  have xab_7 := keep1 hb xab_6
  have Xa_7 := Lib.hid (own_below Xa_6.out hb)
  have HB_7 : Hid (Below w.heap.size w w7) := Lib.hid (HB_6.out.trans (hb.mono HB_6.out.size))
  clear hb  pa_6 qa_6 cw_6 cwb_6 xa_6 xab_6 Xa_6 HB_6
  obtain ⟨w8, hw⟩ : ∃ W : World, W = (w7.alloc (.cells #[.int .i64 (rx : Int), .int .i64 (ry : Int)] 27)) := ⟨_, rfl⟩
  have hb : Below w7.heap.size w7 w8 := by rw [hw]; exact (Below.refl _ _).alloc (Nat.le_refl _) _
  have hs8 : w7.heap.size + 1 ≤ w8.heap.size := by rw [hw]; simp
  have pa_8 := keep1 hb pa_7
  have qa_8 := keep1 hb qa_7
  have cw_8 := keep1 hb cw_7
  have cwb_8 := keep1 hb cwb_7
  have xa_8 := keep1 hb xa_7
  have xab_8 := keep1 hb xab_7
  have Xa_8 := Lib.hid (own_below Xa_7.out hb)
  have HB_8 : Hid (Below w.heap.size w w8) := Lib.hid (HB_7.out.trans (hb.mono HB_7.out.size))
  have cg_8 : w8.cell? ⟨w7.heap.size, 0, none⟩ = some (.int .i64 (rx : Int)) := by rw [hw]; simp [go_sem]
  have cgb_8 : w8.cell? ⟨w7.heap.size, 1, none⟩ = some (.int .i64 (ry : Int)) := by rw [hw]; simp [go_sem]
  have lf_pa : (w7.alloc (.cells #[.int .i64 (rx : Int), .int .i64 (ry : Int)] 27)).cell? ⟨w.heap.size, 0, none⟩ = some (.slice Aa na ca) := by rw [← hw]; exact pa_8
  have lf_qa : (w7.alloc (.cells #[.int .i64 (rx : Int), .int .i64 (ry : Int)] 27)).cell? ⟨w.heap.size, 1, none⟩ = some (.int .i64 ba) := by rw [← hw]; exact qa_8
  have lf_cw : (w7.alloc (.cells #[.int .i64 (rx : Int), .int .i64 (ry : Int)] 27)).cell? ⟨w3.heap.size, 0, none⟩ = some (.int .i64 (rx : Int)) := by rw [← hw]; exact cw_8
  have lf_cwb : (w7.alloc (.cells #[.int .i64 (rx : Int), .int .i64 (ry : Int)] 27)).cell? ⟨w3.heap.size, 1, none⟩ = some (.int .i64 (ry : Int)) := by rw [← hw]; exact cwb_8
  have lf_xa : (w7.alloc (.cells #[.int .i64 (rx : Int), .int .i64 (ry : Int)] 27)).cell? ⟨w5.heap.size, 0, none⟩ = some (.slice (some ⟨gXa, 0, none⟩) na na) := by rw [← hw]; exact xa_8
  have lf_xab : (w7.alloc (.cells #[.int .i64 (rx : Int), .int .i64 (ry : Int)] 27)).cell? ⟨w5.heap.size, 1, none⟩ = some (.int .i64 ba) := by rw [← hw]; exact xab_8
  have lf_cg : (w7.alloc (.cells #[.int .i64 (rx : Int), .int .i64 (ry : Int)] 27)).cell? ⟨w7.heap.size, 0, none⟩ = some (.int .i64 (rx : Int)) := by rw [← hw]; exact cg_8
  have lf_cgb : (w7.alloc (.cells #[.int .i64 (rx : Int), .int .i64 (ry : Int)] 27)).cell? ⟨w7.heap.size, 1, none⟩ = some (.int .i64 (ry : Int)) := by rw [← hw]; exact cgb_8
  have HW8 : Hid ((w7.alloc (.cells #[.int .i64 (rx : Int), .int .i64 (ry : Int)] 27)) = w8) := Lib.hid hw.symm
  clear hb hw pa_7 qa_7 cw_7 cwb_7 xa_7 xab_7 Xa_7 HB_7
  go_wp2_with fail
  rw [HW8.out]
  clear lf_pa lf_qa lf_cw lf_cwb lf_xa lf_xab lf_cg lf_cgb
  refine (eqArm_any _ _ _).mono ?_
  rintro e w9 ⟨rfl, hb⟩
  have hs9 : w8.heap.size ≤ w9.heap.size := hb.size
  have pa_9 := keep1 hb pa_8
  have qa_9 := keep1 hb qa_8
  have cw_9 := keep1 hb cw_8
  have cwb_9 := keep1 hb cwb_8
  have xa_9 := keep1 hb xa_8
  have xab_9 := keep1 hb xab_8
  have cg_9 := keep1 hb cg_8
  have cgb_9 := keep1 hb cgb_8
  have Xa_9 := Lib.hid (own_below Xa_8.out hb)
  have HB_9 : Hid (Below w.heap.size w w9) := Lib.hid (HB_8.out.trans (hb.mono HB_8.out.size))
  clear hb  pa_8 qa_8 cw_8 cwb_8 xa_8 xab_8 cg_8 cgb_8 Xa_8 HB_8
  go_wp2_with fail
  have hsd : Hid (SD w9 w9.heap.size Aa na ca dsa) := Lib.hid ((HRa.out.below HB_9.out).call HB_9.out.size)
  go_region_held3 (fun w' => w'.cell? ⟨w.heap.size, 0, none⟩ = some (.slice Aa na ca) ∧ w'.cell? ⟨w.heap.size, 1, none⟩ = some (.int .i64 ba) ∧ w'.cell? ⟨w5.heap.size, 0, none⟩ = some (.slice (some ⟨gXa, 0, none⟩) na na) ∧ w'.cell? ⟨w5.heap.size, 1, none⟩ = some (.int .i64 ba))
    (first
      | go_keep
      | exact ⟨y0, y1, y2, y3⟩ | exact ⟨z0, z1, z2, z3⟩)
    (first
      | (go_at_call 14; refine (toFlag_any dsa ba Aa ca na _ (by first | exact hsd.out | exact hsd.out.drew | exact hsd.out.drewN _) HNa.out).mono ?_; rintro e w10 ⟨gt, rfl, ho, hb⟩; replace hb : Below w9.heap.size w9 w10 := (by first | exact hb | exact undrew hb); have y0 := keep1 hb pa_9; have y1 := keep1 hb qa_9; have y2 := keep1 hb xa_9; have y3 := keep1 hb xab_9)
      | (go_at_call 17; refine (eqFlag_any dsa ba _ _ _ _ _ _ _ (by first | exact sd_of_own (own_below Xa_9.out hb) HRa.out.ok | exact (sd_of_own (own_below Xa_9.out hb) HRa.out.ok).drew) (by first | exact sd_of_own ho HRa.out.ok | exact (sd_of_own ho HRa.out.ok).drew)).mono ?_; rintro e w11 ⟨rfl, hb2⟩; replace hb2 : Below w10.heap.size w10 w11 := (by first | exact hb2 | exact undrew hb2); have z0 := keep1 hb2 y0; have z1 := keep1 hb2 y1; have z2 := keep1 hb2 y2; have z3 := keep1 hb2 y3))
  have hb3 : Below w9.heap.size w9 w11 := hb.trans (hb2.mono hb.size)
  have hs11 : w9.heap.size ≤ w11.heap.size := hb3.size
  have pa_11 := keep1 hb3 pa_9
  have qa_11 := keep1 hb3 qa_9
  have cw_11 := keep1 hb3 cw_9
  have cwb_11 := keep1 hb3 cwb_9
  have xa_11 := keep1 hb3 xa_9
  have xab_11 := keep1 hb3 xab_9
  have cg_11 := keep1 hb3 cg_9
  have cgb_11 := keep1 hb3 cgb_9
  have Xa_11 := Lib.hid (own_below Xa_9.out hb3)
  have HB_11 : Hid (Below w.heap.size w w11) := Lib.hid (HB_9.out.trans (hb3.mono HB_9.out.size))
  clear hb hb2 hb3 ho y0 z0 y1 z1 y2 z2 y3 z3 hsd pa_9 qa_9 cw_9 cwb_9 xa_9 xab_9 cg_9 cgb_9 Xa_9 HB_9
  go_wp2
  go_ret
  exact ⟨rfl, HB_11.out⟩

theorem walk (Aa : Option Addr) (na ca : Nat) (dsa : List D) (ba : Int) (sb : ByteArray) (w : World) (hra : SD w w.heap.size Aa na ca dsa) (hba : -9223372036854775808 ≤ ba ∧ ba ≤ 9223372036854775807) (hsb : sb.size ≤ maxLen) (hT : TabAt w) :
    Calls Tryd.prog 3 #[.agg #[.slice Aa na ca, .int .i64 ba], .string sb] w fun e w' => e = .returned (.bool true) ∧ Below w.heap.size w w' := by
  exact walkV Aa na ca dsa ba sb _ _ _ w hra hsb (Lib.hid fun A n c w h hn hs => specParse_v dsa ba sb A n c w h hs (arR_of _)) (Lib.hid fun A n c w h hn hs ht => implParse_v dsa ba sb A n c w h hn hs ht (arR_of _)) (Lib.hid hT)

set_option maxRecDepth 100000 in
theorem lifted (os : Os) (started : os.Started) (H : Type) (enc : TypeId × Value → H) :
    ReturnsInHanded {} Tryd.checked os 3 .any (fun w args => (Rows.fnExactParseArmSpec.pre enc Tryd.prog Tryd.f3 [] false w args ∧ laidMetH Tryd.prog laidL w) ∧ sizedMet enc Tryd.prog Tryd.f3 (OpenSpec.ofChange Rows.fnExactParseArmSpec) false w args) (Rows.fnExactParseArmSpec.post enc Tryd.prog Tryd.f3 false true false false) := by
  refine handed_shaped (C := Tryd.checked) (X := fun w _ => laidMetH Tryd.prog laidL w) (fun _ _ _ hh h => h.of_heap hh) own started (by kernel_rfl) Tryd.func3
    (ChangeSpec.witness_shaped (enc := enc) (C := Tryd.checked) (os := os) (X := fun w _ => laidMetH Tryd.prog laidL w) false (World.laidAll Tryd.prog os laidL) #[.agg #[.slice none 0 0, .int .i64 0], .string ByteArray.empty] 8 (World.laidAll_os _ _ _) (World.shaped_of_ZipB (by kernel_rfl) (by kernel_rfl)) (by kernel_rfl) (by kernel_rfl) (by kernel_rfl) (door_met os _)) ?_
  intro W base args ds gs before hval0 hW hcnd hL hsh
  have hval : ∀ (j : Nat) t v, Tryd.f3.params[j]? = some t → args[j]? = some v → Value.okWide Tryd.prog W .any base t v := hval0
  have hW' := hW
  obtain ⟨p, q, hA0, hV, rfl, hfz, hnd⟩ := hW
  have hA : DataW.TrodAll enc Tryd.prog W 0 (fun _ => true) true Tryd.f3.params.toList args.toList ds p := hA0
  rw [Tryd.params3] at hA hval
  obtain ⟨v0, vs0, d0, ds0, p0, q0, hargs, rfl, rfl, h0, r0⟩ := trodAll_cons hA
  obtain ⟨v1, vs1, d1, ds1, p1, q1, rfl, rfl, rfl, h1, r1⟩ := trodAll_cons r0
  obtain ⟨rfl, rfl, rfl⟩ := trodAll_nil r1
  obtain rfl : args = #[v0, v1] := by cases args; simp_all
  obtain ⟨rfl, rfl⟩ := trodVars_none hV
  have k0 := h0
  have lt0 : ∀ x ∈ p0, x.block < W.heap.size := by obtain ⟨m, hm⟩ := k0; exact DataW.trod_lt m _ _ _ hm
  obtain ⟨A0, n0, c0, l0, b0, rfl, w0, wb0⟩ := open_flag (hval 0 24 v0 rfl rfl) h0
  obtain ⟨a1, rfl, rfl, rfl, w1⟩ := open_string Tryd.underlying9 (hval 1 9 v1 rfl rfl) h1
  clear hA0 hval0
  refine (walk A0 n0 c0 l0 b0 a1 W w0 wb0 w1 (tab_of_laid hL hsh)).mono fun e W' ⟨he, bel⟩ => ?_
  subst he
  exact ⟨_, rfl, _, _, _, [], _, [], hW', trodAll_mk1 (shut_bool Tryd.underlying4 _), (trodAll_cons_mk (Below.trod laidOut (by kernel_rfl) (of_decide_eq_true (by kernel_rfl)) k0 bel lt0) (trodAll_cons_mk (shut_string Tryd.underlying9 w1) trodAll_mk0)), rfl, bel.frame _, fun h => by cases h⟩

theorem over : Rows.fnExactParseArmRow.holds Tryd.pinned (OpenSpec.ofChange Rows.fnExactParseArmSpec) :=
  OpenClaim.holds_of_wide 3 Tryd.f3 rfl rfl rfl rfl rfl rfl rfl ⟨rfl, rfl, rfl, rfl, rfl⟩ rfl rfl rfl rfl rfl (by kernel_rfl) Tryd.func3 (by kernel_rfl)
    (of_decide_eq_true (by kernel_rfl)) (by unfold Func.isWrapper; first | (rw [if_pos (by decide +kernel)]; kernel_rfl) | (rw [if_neg (by decide +kernel)]; exact ⟨rfl, rfl⟩))
    (fun os started H enc _ => lifted os started H enc)

theorem proved : Rows.FnExactParseArmCardSaid :=
  Claim7.holds_tied_plain_at .later [] laidK true _ true
    over (fun _ h => by cases h) (by kernel_rfl) (fun _ h => by cases h) fnExactParseArm_row_tie rfl ⟨rfl, rfl⟩ (by kernel_rfl) rfl
    (fun f fn hf hfn => by
      obtain rfl : f = 3 := (Option.some.inj ((show Tryd.prog.funcNamed "loop.example/namedflags/laws.FnExactParseArm" = some 3 by kernel_rfl).symm.trans hf)).symm
      obtain rfl : fn = Tryd.f3 := (Option.some.inj (Tryd.func3.symm.trans hfn)).symm
      exact ⟨by kernel_rfl, fun j t ht => by
        have hm := Array.mem_of_getElem? ht
        have hall : (List.all (Array.toList Tryd.f3.params) fun u => !Tryd.prog.wantsStandIn u) = true := by kernel_rfl
        exact (show Tryd.prog.wantsStandIn t = false by simpa using List.all_eq_true.1 hall t (by simpa using hm))⟩)
    (by kernel_rfl)
end Go.Proofs.YtpfdghbjagdhfaaDoor.fnExactParseArm
