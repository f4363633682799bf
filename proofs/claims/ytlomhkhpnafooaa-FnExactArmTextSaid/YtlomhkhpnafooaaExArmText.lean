/-
For every class of flags and every arm the law on exact answers of ArmText returns true: the program's ArmText answers as its model does, and leaves its arguments as they were.
Conditions: none.
-/
import Derived.Test.YtlomhkhpnafooaaFlagX
import Derived.Deep.DeepCutAuto
import Derived.Test.YtlomhkhpnafooaaArtS
import Derived.Test.YtlomhkhpnafooaaArtI
import Derived.Test.YtlomhkhpnafooaaOpenR
import Derived.Test.YtlomhkhpnafooaaArmsC
namespace Go.Proofs.Ytlomhkhpnafooaa.fnExactArmText
open Go.ChangeShapes Go.WideShapes Go.ChangeAt Go.RowKit
open Go.ChangeMaps (open_string shut_string)
set_option linter.unusedVariables false
set_option maxRecDepth 100000

set_option maxHeartbeats 16000000 in
theorem walkV (Aa : Option Addr) (na ca : Nat) (dsa : List D) (ba : Int) (ab : Ar) (r0 : ByteArray) (w : World) (hra : SD w w.heap.size Aa na ca dsa)
    (SPC : Hid (∀ (Aa : Option Addr) (na ca : Nat) (w : World), SD w w.heap.size Aa na ca dsa → na ≤ 1048576 → Calls Try.prog 5 #[.agg #[.slice Aa na ca, .int .i64 ba], .agg #[.int .i64 ab.all, .int .i64 ab.non]] w (fun e w' => e = .returned (.string r0) ∧ Below w.heap.size w w')))
    (IMC : Hid (∀ (Aa : Option Addr) (na ca : Nat) (w : World), SD w w.heap.size Aa na ca dsa → na ≤ 1048576 → Calls Try.prog 8 #[.agg #[.slice Aa na ca, .int .i64 ba], .agg #[.int .i64 ab.all, .int .i64 ab.non]] w (fun e w' => e = .returned (.string r0) ∧ Below w.heap.size w w'))) :
    Calls Try.prog 3 #[.agg #[.slice Aa na ca, .int .i64 ba], .agg #[.int .i64 ab.all, .int .i64 ab.non]] w fun e w' => e = .returned (.bool true) ∧ Below w.heap.size w w' := by
  obtain ⟨w0, hw⟩ : ∃ W : World, W = ((w.alloc (.cells #[.slice Aa na ca, .int .i64 ba] 24)).alloc (.cells #[.int .i64 ab.all, .int .i64 ab.non] 26)) := ⟨_, rfl⟩
  have hb : Below w.heap.size w w0 := by rw [hw]; exact (((Below.refl _ _).alloc (by first | exact Nat.le_refl _ | (simp; done) | (simp; omega)) _).alloc (by first | exact Nat.le_refl _ | (simp; done) | (simp; omega)) _)
  have hs0 : w.heap.size + 2 ≤ w0.heap.size := by rw [hw]; simp
  have pa_0 : w0.cell? ⟨w.heap.size, 0, none⟩ = some (.slice Aa na ca) := by rw [hw]; simp [go_sem]
  have qa_0 : w0.cell? ⟨w.heap.size, 1, none⟩ = some (.int .i64 ba) := by rw [hw]; simp [go_sem]
  have HRa := Lib.hid hra
  clear hra
  have pb_0 : w0.cell? ⟨w.heap.size + 1, 0, none⟩ = some (.int .i64 ab.all) := by rw [hw]; simp [go_sem]
  have qb_0 : w0.cell? ⟨w.heap.size + 1, 1, none⟩ = some (.int .i64 ab.non) := by rw [hw]; simp [go_sem]
  have HB_0 := Lib.hid hb
  have HW0 : Hid (((w.alloc (.cells #[.slice Aa na ca, .int .i64 ba] 24)).alloc (.cells #[.int .i64 ab.all, .int .i64 ab.non] 26)) = w0) := Lib.hid hw.symm
  clear hb hw
  go_enter Try.func3, Try.ntmps3
  go_wp2_with fail
  rw [HW0.out]
  refine (szFlag_any dsa ba Aa ca na 1048576 _ ((HRa.out.below HB_0.out).call HB_0.out.size) (by omega) (by omega)).mono ?_
  rintro e w1 ⟨ra, rfl, raa, rba, rca, hb⟩
  have hs1 : w0.heap.size ≤ w1.heap.size := hb.size
  have pa_1 := keep1 hb pa_0
  have qa_1 := keep1 hb qa_0
  have pb_1 := keep1 hb pb_0
  have qb_1 := keep1 hb qb_0
  have HB_1 : Hid (Below w.heap.size w w1) := Lib.hid (HB_0.out.trans (hb.mono HB_0.out.size))
  have HQa := Lib.hid rca
  clear hb rca pa_0 qa_0 pb_0 qb_0 HB_0
  by_cases hnega : ra < 0
  · go_wp2
    go_ret
    exact ⟨rfl, HB_1.out⟩
  have HNa : Hid (na ≤ 1048576) := Lib.hid (by have := HQa.out (by omega); omega)
  clear HQa
  have hsd : Hid (SD w1 w1.heap.size Aa na ca dsa) := Lib.hid ((HRa.out.below HB_1.out).call HB_1.out.size)
  go_wp2_with fail
  go_region_held3 (fun w' => w'.cell? ⟨w.heap.size, 0, none⟩ = some (.slice Aa na ca) ∧ w'.cell? ⟨w.heap.size, 1, none⟩ = some (.int .i64 ba) ∧ w'.cell? ⟨w.heap.size + 1, 0, none⟩ = some (.int .i64 ab.all) ∧ w'.cell? ⟨w.heap.size + 1, 1, none⟩ = some (.int .i64 ab.non))
    (first | go_keep | exact ⟨pa_1, qa_1, pb_1, qb_1⟩ | exact ⟨v1_pa, v1_qa, v1_pb, v1_qb⟩ | exact ⟨v2_pa, v2_qa, v2_pb, v2_qb⟩ | exact ⟨v3_pa, v3_qa, v3_pb, v3_qb⟩)
    (first
      | (go_at_call 6; refine (toFlag_any dsa ba Aa ca na _ (by first | exact hsd.out | exact hsd.out.drew | exact hsd.out.drewN _) HNa.out).mono ?_; rintro e w2 ⟨gt, rfl, ho, hb1⟩; replace hb1 : Below w1.heap.size w1 w2 := (by first | exact hb1 | exact undrew hb1); have v1_pa := keep1 hb1 pa_1; have v1_qa := keep1 hb1 qa_1; have v1_pb := keep1 hb1 pb_1; have v1_qb := keep1 hb1 qb_1)
      | (go_at_call_of 7 ab; refine (toArm_any _ _ _).mono ?_; rintro e w3 ⟨rfl, hb2⟩; replace hb2 : Below w2.heap.size w2 w3 := (by first | exact hb2 | exact undrew hb2); have v2_pa := keep1 hb2 v1_pa; have v2_qa := keep1 hb2 v1_qa; have v2_pb := keep1 hb2 v1_pb; have v2_qb := keep1 hb2 v1_qb; have ho := own_below ho hb2)
      | (go_at_call 5; refine (SPC.out _ _ _ _ (sd_of_own ho HRa.out.ok) HNa.out).mono ?_; rintro e w4 ⟨rfl, hb3⟩; replace hb3 : Below w3.heap.size w3 w4 := (by first | exact hb3 | exact undrew hb3); have v3_pa := keep1 hb3 v2_pa; have v3_qa := keep1 hb3 v2_qa; have v3_pb := keep1 hb3 v2_pb; have v3_qb := keep1 hb3 v2_qb; have ho := own_below ho hb3))
  have hbz : Below w1.heap.size w1 w4 := ((hb1).trans (hb2.mono (hb1).size)).trans (hb3.mono ((hb1).trans (hb2.mono (hb1).size)).size)
  have hs4 : w1.heap.size ≤ w4.heap.size := hbz.size
  have pa_4 := keep1 hbz pa_1
  have qa_4 := keep1 hbz qa_1
  have pb_4 := keep1 hbz pb_1
  have qb_4 := keep1 hbz qb_1
  have HB_4 : Hid (Below w.heap.size w w4) := Lib.hid (HB_1.out.trans (hbz.mono HB_1.out.size))
  clear hbz hb1 hb2 hb3 ho v1_pa v1_qa v1_pb v1_qb v2_pa v2_qa v2_pb v2_qb v3_pa v3_qa v3_pb v3_qb
  clear pa_1 qa_1 pb_1 qb_1 HB_1
  clear hsd
  go_wp2_with fail
  refine (toFlag_any dsa ba Aa ca na _ ((HRa.out.below HB_4.out).call HB_4.out.size) HNa.out).mono ?_
  rintro e w5 ⟨gXa, rfl, ho, hb⟩
  have hs5 : w4.heap.size ≤ w5.heap.size := hb.size
  have pa_5 := keep1 hb pa_4
  have qa_5 := keep1 hb qa_4
  have pb_5 := keep1 hb pb_4
  have qb_5 := keep1 hb qb_4
  have HB_5 : Hid (Below w.heap.size w w5) := Lib.hid (HB_4.out.trans (hb.mono HB_4.out.size))
  have Xa_5 : Hid (w5.ownsRow w4.heap.size 51 2 (.slice (some ⟨gXa, 0, none⟩) na na) na (flat dsa)) := Lib.hid ho
  have XaL : Hid (∀ q, (Value.slice (some ⟨gXa, 0, none⟩) na na).ownBlock = some q → w4.heap.size ≤ q ∧ q < w5.heap.size) := Lib.hid (fun q hq => ho.lt q hq)
  clear ho hb pa_4 qa_4 pb_4 qb_4 HB_4
  obtain ⟨w6, hw⟩ : ∃ W : World, W = (w5.alloc (.cells #[.slice (some ⟨gXa, 0, none⟩) na na, .int .i64 ba] 31)) := ⟨_, rfl⟩
  have hb : Below w5.heap.size w5 w6 := by rw [hw]; exact (Below.refl _ _).alloc (Nat.le_refl _) _
  have hs6 : w5.heap.size + 1 ≤ w6.heap.size := by rw [hw]; simp
  have pa_6 := keep1 hb pa_5
  have qa_6 := keep1 hb qa_5
  have pb_6 := keep1 hb pb_5
  have qb_6 := keep1 hb qb_5
  have Xa_6 := Lib.hid (own_below Xa_5.out hb)
  have HB_6 : Hid (Below w.heap.size w w6) := Lib.hid (HB_5.out.trans (hb.mono HB_5.out.size))
  have xa_6 : w6.cell? ⟨w5.heap.size, 0, none⟩ = some (.slice (some ⟨gXa, 0, none⟩) na na) := by rw [hw]; simp [go_sem]
  have xab_6 : w6.cell? ⟨w5.heap.size, 1, none⟩ = some (.int .i64 ba) := by rw [hw]; simp [go_sem]
  have lf_pa : (w5.alloc (.cells #[.slice (some ⟨gXa, 0, none⟩) na na, .int .i64 ba] 31)).cell? ⟨w.heap.size, 0, none⟩ = some (.slice Aa na ca) := by rw [← hw]; exact pa_6
  have lf_qa : (w5.alloc (.cells #[.slice (some ⟨gXa, 0, none⟩) na na, .int .i64 ba] 31)).cell? ⟨w.heap.size, 1, none⟩ = some (.int .i64 ba) := by rw [← hw]; exact qa_6
  have lf_pb : (w5.alloc (.cells #[.slice (some ⟨gXa, 0, none⟩) na na, .int .i64 ba] 31)).cell? ⟨w.heap.size + 1, 0, none⟩ = some (.int .i64 ab.all) := by rw [← hw]; exact pb_6
  have lf_qb : (w5.alloc (.cells #[.slice (some ⟨gXa, 0, none⟩) na na, .int .i64 ba] 31)).cell? ⟨w.heap.size + 1, 1, none⟩ = some (.int .i64 ab.non) := by rw [← hw]; exact qb_6
  have lf_xa : (w5.alloc (.cells #[.slice (some ⟨gXa, 0, none⟩) na na, .int .i64 ba] 31)).cell? ⟨w5.heap.size, 0, none⟩ = some (.slice (some ⟨gXa, 0, none⟩) na na) := by rw [← hw]; exact xa_6
  have lf_xab : (w5.alloc (.cells #[.slice (some ⟨gXa, 0, none⟩) na na, .int .i64 ba] 31)).cell? ⟨w5.heap.size, 1, none⟩ = some (.int .i64 ba) := by rw [← hw]; exact xab_6
  have HW6 : Hid ((w5.alloc (.cells #[.slice (some ⟨gXa, 0, none⟩) na na, .int .i64 ba] 31)) = w6) := Lib.hid hw.symm
  clear hb hw pa_5 qa_5 pb_5 qb_5 Xa_5 HB_5
  have hx := Xa_6.out
  go_wp2_with fail
  rw [HW6.out]
  clear lf_pa lf_qa lf_pb lf_qb lf_xa lf_xab
  go_region_held3 (fun w' => w'.cell? ⟨w5.heap.size, 0, none⟩ = some (.slice (some ⟨gXa, 0, none⟩) na na) ∧ w'.cell? ⟨w5.heap.size, 1, none⟩ = some (.int .i64 ba) ∧ w'.cell? ⟨w.heap.size + 1, 0, none⟩ = some (.int .i64 ab.all) ∧ w'.cell? ⟨w.heap.size + 1, 1, none⟩ = some (.int .i64 ab.non))
    (first | go_keep | exact ⟨xa_6, xab_6, pb_6, qb_6⟩ | exact ⟨v1_xa, v1_xab, v1_pb, v1_qb⟩ | exact ⟨v2_xa, v2_xab, v2_pb, v2_qb⟩)
    (first
      | (go_at_call_of 7 ab; refine (toArm_any _ _ _).mono ?_; rintro e w7 ⟨rfl, hb1⟩; replace hb1 : Below w6.heap.size w6 w7 := (by first | exact hb1 | exact undrew hb1); have v1_xa := keep1 hb1 xa_6; have v1_xab := keep1 hb1 xab_6; have v1_pb := keep1 hb1 pb_6; have v1_qb := keep1 hb1 qb_6; have hx := own_below hx hb1)
      | (go_at_call 8; refine (IMC.out _ _ _ _ (sd_of_own hx HRa.out.ok) HNa.out).mono ?_; rintro e w8 ⟨rfl, hb2⟩; replace hb2 : Below w7.heap.size w7 w8 := (by first | exact hb2 | exact undrew hb2); have v2_xa := keep1 hb2 v1_xa; have v2_xab := keep1 hb2 v1_xab; have v2_pb := keep1 hb2 v1_pb; have v2_qb := keep1 hb2 v1_qb; have hx := own_below hx hb2))
  have hbz : Below w6.heap.size w6 w8 := (hb1).trans (hb2.mono (hb1).size)
  have hs8 : w6.heap.size ≤ w8.heap.size := hbz.size
  have pa_8 := keep1 hbz pa_6
  have qa_8 := keep1 hbz qa_6
  have pb_8 := keep1 hbz pb_6
  have qb_8 := keep1 hbz qb_6
  have xa_8 := keep1 hbz xa_6
  have xab_8 := keep1 hbz xab_6
  have Xa_8 := Lib.hid (own_below Xa_6.out hbz)
  have HB_8 : Hid (Below w.heap.size w w8) := Lib.hid (HB_6.out.trans (hbz.mono HB_6.out.size))
  clear hbz hb1 hb2 hx v1_xa v1_xab v1_pb v1_qb v2_xa v2_xab v2_pb v2_qb
  clear pa_6 qa_6 pb_6 qb_6 xa_6 xab_6 Xa_6 HB_6
  go_wp2_with fail
  have hsd : Hid (SD w8 w8.heap.size Aa na ca dsa) := Lib.hid ((HRa.out.below HB_8.out).call HB_8.out.size)
  go_region_held3 (fun w' => w'.cell? ⟨w.heap.size, 0, none⟩ = some (.slice Aa na ca) ∧ w'.cell? ⟨w.heap.size, 1, none⟩ = some (.int .i64 ba) ∧ w'.cell? ⟨w5.heap.size, 0, none⟩ = some (.slice (some ⟨gXa, 0, none⟩) na na) ∧ w'.cell? ⟨w5.heap.size, 1, none⟩ = some (.int .i64 ba))
    (first
      | go_keep
      | exact ⟨y0, y1, y2, y3⟩ | exact ⟨z0, z1, z2, z3⟩)
    (first
      | (go_at_call 6; refine (toFlag_any dsa ba Aa ca na _ (by first | exact hsd.out | exact hsd.out.drew | exact hsd.out.drewN _) HNa.out).mono ?_; rintro e w9 ⟨gt, rfl, ho, hb⟩; replace hb : Below w8.heap.size w8 w9 := (by first | exact hb | exact undrew hb); have y0 := keep1 hb pa_8; have y1 := keep1 hb qa_8; have y2 := keep1 hb xa_8; have y3 := keep1 hb xab_8)
      | (go_at_call 9; refine (eqFlag_any dsa ba _ _ _ _ _ _ _ (by first | exact sd_of_own (own_below Xa_8.out hb) HRa.out.ok | exact (sd_of_own (own_below Xa_8.out hb) HRa.out.ok).drew) (by first | exact sd_of_own ho HRa.out.ok | exact (sd_of_own ho HRa.out.ok).drew)).mono ?_; rintro e w10 ⟨rfl, hb2⟩; replace hb2 : Below w9.heap.size w9 w10 := (by first | exact hb2 | exact undrew hb2); have z0 := keep1 hb2 y0; have z1 := keep1 hb2 y1; have z2 := keep1 hb2 y2; have z3 := keep1 hb2 y3))
  have hb3 : Below w8.heap.size w8 w10 := hb.trans (hb2.mono hb.size)
  have hs10 : w8.heap.size ≤ w10.heap.size := hb3.size
  have pa_10 := keep1 hb3 pa_8
  have qa_10 := keep1 hb3 qa_8
  have pb_10 := keep1 hb3 pb_8
  have qb_10 := keep1 hb3 qb_8
  have xa_10 := keep1 hb3 xa_8
  have xab_10 := keep1 hb3 xab_8
  have Xa_10 := Lib.hid (own_below Xa_8.out hb3)
  have HB_10 : Hid (Below w.heap.size w w10) := Lib.hid (HB_8.out.trans (hb3.mono HB_8.out.size))
  clear hb hb2 hb3 ho y0 z0 y1 z1 y2 z2 y3 z3 hsd pa_8 qa_8 pb_8 qb_8 xa_8 xab_8 Xa_8 HB_8
  go_wp2
  go_ret
  exact ⟨rfl, HB_10.out⟩

theorem walk (Aa : Option Addr) (na ca : Nat) (dsa : List D) (ba : Int) (ab : Ar) (w : World) (hra : SD w w.heap.size Aa na ca dsa) (hba : -9223372036854775808 ≤ ba ∧ ba ≤ 9223372036854775807) (hab : ab.ok) :
    Calls Try.prog 3 #[.agg #[.slice Aa na ca, .int .i64 ba], .agg #[.int .i64 ab.all, .int .i64 ab.non]] w fun e w' => e = .returned (.bool true) ∧ Below w.heap.size w w' := by
  exact walkV Aa na ca dsa ba ab (mArmT dsa ba ab) w hra (Lib.hid fun A n c w h hn => specArmT_v dsa ba ab.all ab.non A n c w h) (Lib.hid fun A n c w h hn => implArmT_v dsa ba ab.all ab.non A n c w h hn hab.1 hab.2)

set_option maxRecDepth 100000 in
theorem lifted (os : Os) (started : os.Started) (H : Type) (enc : TypeId × Value → H) :
    ReturnsInHanded {} Try.checked os 3 .any (Rows.fnExactArmTextSpec.pre6 enc Try.prog Try.f3 Rows.fnExactArmTextRow.domain false) (Rows.fnExactArmTextSpec.post enc Try.prog Try.f3 false true false false) := by
  refine returnsInHanded_of_change (C := Try.checked) own started (by kernel_rfl) Try.func3
    (ChangeSpec.witness6 (enc := enc) (C := Try.checked) false ⟨#[], #[.agg #[.slice none 0 0, .int .i64 0], .agg #[.int .i64 0, .int .i64 0]], []⟩ 8 (by kernel_rfl) (by kernel_rfl) (by kernel_rfl) (by kernel_rfl)) ?_
  intro W base args ds gs before hval0 hW hcnd _
  have hval : ∀ (j : Nat) t v, Try.f3.params[j]? = some t → args[j]? = some v → Value.okWide Try.prog W .any base t v := hval0
  have hW' := hW
  obtain ⟨p, q, hA0, hV, rfl, hfz, hnd⟩ := hW
  have hA : DataW.TrodAll enc Try.prog W 0 (fun _ => true) true Try.f3.params.toList args.toList ds p := hA0
  rw [Try.params3] at hA hval
  obtain ⟨v0, vs0, d0, ds0, p0, q0, hargs, rfl, rfl, h0, r0⟩ := trodAll_cons hA
  obtain ⟨v1, vs1, d1, ds1, p1, q1, rfl, rfl, rfl, h1, r1⟩ := trodAll_cons r0
  obtain ⟨rfl, rfl, rfl⟩ := trodAll_nil r1
  obtain rfl : args = #[v0, v1] := by cases args; simp_all
  obtain ⟨rfl, rfl⟩ := trodVars_none hV
  have k0 := h0
  have lt0 : ∀ x ∈ p0, x.block < W.heap.size := by obtain ⟨m, hm⟩ := k0; exact DataW.trod_lt m _ _ _ hm
  obtain ⟨A0, n0, c0, l0, b0, rfl, w0, wb0⟩ := open_flag (hval 0 24 v0 rfl rfl) h0
  have k1 := h1
  have lt1 : ∀ x ∈ p1, x.block < W.heap.size := by obtain ⟨m, hm⟩ := k1; exact DataW.trod_lt m _ _ _ hm
  obtain ⟨a1, rfl, w1⟩ := open_arm (hval 1 26 v1 rfl rfl) h1
  clear hA0 hval0
  refine (walk A0 n0 c0 l0 b0 a1 W w0 wb0 w1).mono fun e W' ⟨he, bel⟩ => ?_
  subst he
  exact ⟨_, rfl, _, _, _, [], _, [], hW', trodAll_mk1 (shut_bool Try.underlying4 _), (trodAll_cons_mk (Below.trod laidOut (by kernel_rfl) (of_decide_eq_true (by kernel_rfl)) k0 bel lt0) (trodAll_cons_mk (Below.trod laidOut (by kernel_rfl) (of_decide_eq_true (by kernel_rfl)) k1 bel lt1) trodAll_mk0)), rfl, bel.frame _, fun h => by cases h⟩

theorem over : Rows.fnExactArmTextRow.holds Try.pinned (OpenSpec.ofChange Rows.fnExactArmTextSpec) :=
  OpenClaim.holds_of_wide 3 Try.f3 rfl rfl rfl rfl rfl rfl rfl ⟨rfl, rfl, rfl, rfl, rfl⟩ rfl rfl rfl rfl rfl (by kernel_rfl) Try.func3 (by kernel_rfl)
    (of_decide_eq_true (by kernel_rfl)) (by unfold Func.isWrapper; first | (rw [if_pos (by decide +kernel)]; kernel_rfl) | (rw [if_neg (by decide +kernel)]; exact ⟨rfl, rfl⟩))
    (fun os started H enc _ => lifted os started H enc)

theorem proved : Rows.FnExactArmTextSaid := over
end Go.Proofs.Ytlomhkhpnafooaa.fnExactArmText
