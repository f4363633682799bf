/-
For every class of flags and every list of arms the law on exact answers of FirstMissed returns true: the program's FirstMissed answers as its model does, and leaves its arguments as they were.
Conditions: none.
-/
import Derived.Test.YtdgngpponbgklaaFlagX
import Derived.Deep.DeepCutAuto
import Derived.Test.YtdgngpponbgklaaArmV
import Derived.Test.YtdgngpponbgklaaArmY
import Derived.Test.YtdgngpponbgklaaOpenR
import Derived.Test.YtdgngpponbgklaaArmsC
namespace Go.Proofs.Ytdgngpponbgklaa.fnExactFirstMissed
open Go.ChangeShapes Go.WideShapes Go.ChangeAt Go.RowKit
open Go.ChangeMaps (open_string shut_string)
set_option linter.unusedVariables false
set_option maxRecDepth 100000

set_option maxHeartbeats 16000000 in
theorem walkV (Aa : Option Addr) (na ca : Nat) (dsa : List D) (ba : Int) (Ab : Option Addr) (nb cb : Nat) (ssb : List Ar) (r0 : Int) (w : World) (hra : SD w w.heap.size Aa na ca dsa) (hrb : SA w w.heap.size Ab nb cb ssb)
    (SPC : Hid (∀ (Aa : Option Addr) (na ca : Nat) (Ab : Option Addr) (nb cb : Nat) (w : World), SD w w.heap.size Aa na ca dsa → na ≤ 1048576 → SA w w.heap.size Ab nb cb ssb → nb ≤ 1048576 → Calls Try.prog 32 #[.agg #[.slice Aa na ca, .int .i64 ba], .slice Ab nb cb] w (fun e w' => e = .returned (.int .i64 r0) ∧ Below w.heap.size w w')))
    (IMC : Hid (∀ (Aa : Option Addr) (na ca : Nat) (Ab : Option Addr) (nb cb : Nat) (w : World), SD w w.heap.size Aa na ca dsa → na ≤ 1048576 → SA w w.heap.size Ab nb cb ssb → nb ≤ 1048576 → Calls Try.prog 33 #[.agg #[.slice Aa na ca, .int .i64 ba], .slice Ab nb cb] w (fun e w' => e = .returned (.int .i64 r0) ∧ Below w.heap.size w w'))) :
    Calls Try.prog 9 #[.agg #[.slice Aa na ca, .int .i64 ba], .slice Ab nb cb] w fun e w' => e = .returned (.bool true) ∧ Below w.heap.size w w' := by
  obtain ⟨w0, hw⟩ : ∃ W : World, W = (w.alloc (.cells #[.slice Aa na ca, .int .i64 ba] 24)) := ⟨_, rfl⟩
  have hb : Below w.heap.size w w0 := by rw [hw]; exact ((Below.refl _ _).alloc (by first | exact Nat.le_refl _ | (simp; done) | (simp; omega)) _)
  have hs0 : w.heap.size + 1 ≤ w0.heap.size := by rw [hw]; simp
  have pa_0 : w0.cell? ⟨w.heap.size, 0, none⟩ = some (.slice Aa na ca) := by rw [hw]; simp [go_sem]
  have qa_0 : w0.cell? ⟨w.heap.size, 1, none⟩ = some (.int .i64 ba) := by rw [hw]; simp [go_sem]
  have HRa := Lib.hid hra
  clear hra
  have HRb := Lib.hid hrb
  clear hrb
  have HB_0 := Lib.hid hb
  have HW0 : Hid ((w.alloc (.cells #[.slice Aa na ca, .int .i64 ba] 24)) = w0) := Lib.hid hw.symm
  clear hb hw
  go_enter Try.func9, Try.ntmps9
  go_wp2_with fail
  rw [HW0.out]
  refine (szFlag_any dsa ba Aa ca na 1048576 _ ((HRa.out.below HB_0.out).call HB_0.out.size) (by omega) (by omega)).mono ?_
  rintro e w1 ⟨ra, rfl, raa, rba, rca, hb⟩
  have hs1 : w0.heap.size ≤ w1.heap.size := hb.size
  have pa_1 := keep1 hb pa_0
  have qa_1 := keep1 hb qa_0
  have HB_1 : Hid (Below w.heap.size w w1) := Lib.hid (HB_0.out.trans (hb.mono HB_0.out.size))
  have HQa := Lib.hid rca
  clear hb rca pa_0 qa_0 HB_0
  by_cases hnega : ra < 0
  · go_wp2
    go_ret
    exact ⟨rfl, HB_1.out⟩
  have HNa : Hid (na ≤ 1048576) := Lib.hid (by have := HQa.out (by omega); omega)
  clear HQa
  go_wp2_with fail
  refine (szArmS_any ssb Ab cb nb ra _ ((HRb.out.below HB_1.out).call HB_1.out.size) (by omega) (by omega)).mono ?_
  rintro e w2 ⟨rb, rfl, rab, rbb, rcb, hb⟩
  have hs2 : w1.heap.size ≤ w2.heap.size := hb.size
  have pa_2 := keep1 hb pa_1
  have qa_2 := keep1 hb qa_1
  have HB_2 : Hid (Below w.heap.size w w2) := Lib.hid (HB_1.out.trans (hb.mono HB_1.out.size))
  have HQb := Lib.hid rcb
  clear hb rcb pa_1 qa_1 HB_1
  by_cases hnegb : rb < 0
  · go_wp2
    go_ret
    exact ⟨rfl, HB_2.out⟩
  have HNb : Hid (nb ≤ 1048576) := Lib.hid (by have := HQb.out (by omega); omega)
  clear HQb
  go_wp2_with fail
  refine (toFlag_any dsa ba Aa ca na _ ((HRa.out.below HB_2.out).call HB_2.out.size) HNa.out).mono ?_
  rintro e w3 ⟨gTa, rfl, ho, hb⟩
  have hs3 : w2.heap.size ≤ w3.heap.size := hb.size
  have pa_3 := keep1 hb pa_2
  have qa_3 := keep1 hb qa_2
  have HB_3 : Hid (Below w.heap.size w w3) := Lib.hid (HB_2.out.trans (hb.mono HB_2.out.size))
  have Ta_3 : Hid (w3.ownsRow w2.heap.size 102 2 (.slice (some ⟨gTa, 0, none⟩) na na) na (flat dsa)) := Lib.hid ho
  have TaL : Hid (∀ q, (Value.slice (some ⟨gTa, 0, none⟩) na na).ownBlock = some q → w2.heap.size ≤ q ∧ q < w3.heap.size) := Lib.hid (fun q hq => ho.lt q hq)
  clear ho hb pa_2 qa_2 HB_2
  go_wp2_with fail
  refine (toArmS_any ssb Ab cb nb _ ((HRb.out.below HB_3.out).call HB_3.out.size) HNb.out).mono ?_
  rintro e w4 ⟨gTb, rfl, ho, hb⟩
  have hs4 : w3.heap.size ≤ w4.heap.size := hb.size
  have pa_4 := keep1 hb pa_3
  have qa_4 := keep1 hb qa_3
  have Ta_4 := Lib.hid (own_below Ta_3.out hb)
  have HB_4 : Hid (Below w.heap.size w w4) := Lib.hid (HB_3.out.trans (hb.mono HB_3.out.size))
  have Tb_4 : Hid (w4.ownsRow w3.heap.size 33 2 (.slice (some ⟨gTb, 0, none⟩) nb nb) nb (flatA ssb)) := Lib.hid ho
  have TbL : Hid (∀ q, (Value.slice (some ⟨gTb, 0, none⟩) nb nb).ownBlock = some q → w3.heap.size ≤ q ∧ q < w4.heap.size) := Lib.hid (fun q hq => ho.lt q hq)
  clear ho hb pa_3 qa_3 Ta_3 HB_3
  go_wp2_with fail
  refine (SPC.out _ _ _ _ _ _ _ (sd_of_own Ta_4.out HRa.out.ok) HNa.out (sa_of_own Tb_4.out HRb.out.ok) HNb.out).mono ?_
  rintro e w5 ⟨rfl, hb⟩
  have hs5 : w4.heap.size ≤ w5.heap.size := hb.size
  have pa_5 := keep1 hb pa_4
  have qa_5 := keep1 hb qa_4
  have Ta_5 := Lib.hid (own_below Ta_4.out hb)
  have Tb_5 := Lib.hid (own_below Tb_4.out hb)
  have HB_5 : Hid (Below w.heap.size w w5) := Lib.hid (HB_4.out.trans (hb.mono HB_4.out.size))
  clear hb  pa_4 qa_4 Ta_4 Tb_4 HB_4
  clear Ta_5
  clear Tb_5
  go_wp2_with fail
  refine (toFlag_any dsa ba Aa ca na _ ((HRa.out.below HB_5.out).call HB_5.out.size) HNa.out).mono ?_
  rintro e w6 ⟨gXa, rfl, ho, hb⟩
  have hs6 : w5.heap.size ≤ w6.heap.size := hb.size
  have pa_6 := keep1 hb pa_5
  have qa_6 := keep1 hb qa_5
  have HB_6 : Hid (Below w.heap.size w w6) := Lib.hid (HB_5.out.trans (hb.mono HB_5.out.size))
  have Xa_6 : Hid (w6.ownsRow w5.heap.size 102 2 (.slice (some ⟨gXa, 0, none⟩) na na) na (flat dsa)) := Lib.hid ho
  have XaL : Hid (∀ q, (Value.slice (some ⟨gXa, 0, none⟩) na na).ownBlock = some q → w5.heap.size ≤ q ∧ q < w6.heap.size) := Lib.hid (fun q hq => ho.lt q hq)
  clear ho hb pa_5 qa_5 HB_5
  obtain ⟨w7, hw⟩ : ∃ W : World, W = (w6.alloc (.cells #[.slice (some ⟨gXa, 0, none⟩) na na, .int .i64 ba] 31)) := ⟨_, rfl⟩
  have hb : Below w6.heap.size w6 w7 := by rw [hw]; exact (Below.refl _ _).alloc (Nat.le_refl _) _
  have hs7 : w6.heap.size + 1 ≤ w7.heap.size := by rw [hw]; simp
  have pa_7 := keep1 hb pa_6
  have qa_7 := keep1 hb qa_6
  have Xa_7 := Lib.hid (own_below Xa_6.out hb)
  have HB_7 : Hid (Below w.heap.size w w7) := Lib.hid (HB_6.out.trans (hb.mono HB_6.out.size))
  have xa_7 : w7.cell? ⟨w6.heap.size, 0, none⟩ = some (.slice (some ⟨gXa, 0, none⟩) na na) := by rw [hw]; simp [go_sem]
  have xab_7 : w7.cell? ⟨w6.heap.size, 1, none⟩ = some (.int .i64 ba) := by rw [hw]; simp [go_sem]
  have lf_pa : (w6.alloc (.cells #[.slice (some ⟨gXa, 0, none⟩) na na, .int .i64 ba] 31)).cell? ⟨w.heap.size, 0, none⟩ = some (.slice Aa na ca) := by rw [← hw]; exact pa_7
  have lf_qa : (w6.alloc (.cells #[.slice (some ⟨gXa, 0, none⟩) na na, .int .i64 ba] 31)).cell? ⟨w.heap.size, 1, none⟩ = some (.int .i64 ba) := by rw [← hw]; exact qa_7
  have lf_xa : (w6.alloc (.cells #[.slice (some ⟨gXa, 0, none⟩) na na, .int .i64 ba] 31)).cell? ⟨w6.heap.size, 0, none⟩ = some (.slice (some ⟨gXa, 0, none⟩) na na) := by rw [← hw]; exact xa_7
  have lf_xab : (w6.alloc (.cells #[.slice (some ⟨gXa, 0, none⟩) na na, .int .i64 ba] 31)).cell? ⟨w6.heap.size, 1, none⟩ = some (.int .i64 ba) := by rw [← hw]; exact xab_7
  have HW7 : Hid ((w6.alloc (.cells #[.slice (some ⟨gXa, 0, none⟩) na na, .int .i64 ba] 31)) = w7) := Lib.hid hw.symm
  clear hb hw pa_6 qa_6 Xa_6 HB_6
  go_wp2_with fail
  rw [HW7.out]
  clear lf_pa lf_qa lf_xa lf_xab
  refine (toArmS_any ssb Ab cb nb _ ((HRb.out.below HB_7.out).call HB_7.out.size) HNb.out).mono ?_
  rintro e w8 ⟨gXb, rfl, ho, hb⟩
  have hs8 : w7.heap.size ≤ w8.heap.size := hb.size
  have pa_8 := keep1 hb pa_7
  have qa_8 := keep1 hb qa_7
  have xa_8 := keep1 hb xa_7
  have xab_8 := keep1 hb xab_7
  have Xa_8 := Lib.hid (own_below Xa_7.out hb)
  have HB_8 : Hid (Below w.heap.size w w8) := Lib.hid (HB_7.out.trans (hb.mono HB_7.out.size))
  have Xb_8 : Hid (w8.ownsRow w7.heap.size 33 2 (.slice (some ⟨gXb, 0, none⟩) nb nb) nb (flatA ssb)) := Lib.hid ho
  have XbL : Hid (∀ q, (Value.slice (some ⟨gXb, 0, none⟩) nb nb).ownBlock = some q → w7.heap.size ≤ q ∧ q < w8.heap.size) := Lib.hid (fun q hq => ho.lt q hq)
  clear ho hb pa_7 qa_7 xa_7 xab_7 Xa_7 HB_7
  go_wp2_with fail
  refine (IMC.out _ _ _ _ _ _ _ (sd_of_own Xa_8.out HRa.out.ok) HNa.out (sa_of_own Xb_8.out HRb.out.ok) HNb.out).mono ?_
  rintro e w9 ⟨rfl, hb⟩
  have hs9 : w8.heap.size ≤ w9.heap.size := hb.size
  have pa_9 := keep1 hb pa_8
  have qa_9 := keep1 hb qa_8
  have xa_9 := keep1 hb xa_8
  have xab_9 := keep1 hb xab_8
  have Xa_9 := Lib.hid (own_below Xa_8.out hb)
  have Xb_9 := Lib.hid (own_below Xb_8.out hb)
  have HB_9 : Hid (Below w.heap.size w w9) := Lib.hid (HB_8.out.trans (hb.mono HB_8.out.size))
  clear hb  pa_8 qa_8 xa_8 xab_8 Xa_8 Xb_8 HB_8
  go_wp2_with fail
  have hsd : Hid (SD w9 w9.heap.size Aa na ca dsa) := Lib.hid ((HRa.out.below HB_9.out).call HB_9.out.size)
  go_region_held3 (fun w' => w'.cell? ⟨w.heap.size, 0, none⟩ = some (.slice Aa na ca) ∧ w'.cell? ⟨w.heap.size, 1, none⟩ = some (.int .i64 ba) ∧ w'.cell? ⟨w6.heap.size, 0, none⟩ = some (.slice (some ⟨gXa, 0, none⟩) na na) ∧ w'.cell? ⟨w6.heap.size, 1, none⟩ = some (.int .i64 ba))
    (first
      | go_keep
      | exact ⟨y0, y1, y2, y3⟩ | exact ⟨z0, z1, z2, z3⟩)
    (first
      | (go_at_call 15; refine (toFlag_any dsa ba Aa ca na _ (by first | exact hsd.out | exact hsd.out.drew | exact hsd.out.drewN _) HNa.out).mono ?_; rintro e w10 ⟨gt, rfl, ho, hb⟩; replace hb : Below w9.heap.size w9 w10 := (by first | exact hb | exact undrew hb); have y0 := keep1 hb pa_9; have y1 := keep1 hb qa_9; have y2 := keep1 hb xa_9; have y3 := keep1 hb xab_9)
      | (go_at_call 18; refine (eqFlag_any dsa ba _ _ _ _ _ _ _ (by first | exact sd_of_own (own_below Xa_9.out hb) HRa.out.ok | exact (sd_of_own (own_below Xa_9.out hb) HRa.out.ok).drew) (by first | exact sd_of_own ho HRa.out.ok | exact (sd_of_own ho HRa.out.ok).drew)).mono ?_; rintro e w11 ⟨rfl, hb2⟩; replace hb2 : Below w10.heap.size w10 w11 := (by first | exact hb2 | exact undrew hb2); have z0 := keep1 hb2 y0; have z1 := keep1 hb2 y1; have z2 := keep1 hb2 y2; have z3 := keep1 hb2 y3))
  have hb3 : Below w9.heap.size w9 w11 := hb.trans (hb2.mono hb.size)
  have hs11 : w9.heap.size ≤ w11.heap.size := hb3.size
  have pa_11 := keep1 hb3 pa_9
  have qa_11 := keep1 hb3 qa_9
  have xa_11 := keep1 hb3 xa_9
  have xab_11 := keep1 hb3 xab_9
  have Xa_11 := Lib.hid (own_below Xa_9.out hb3)
  have Xb_11 := Lib.hid (own_below Xb_9.out hb3)
  have HB_11 : Hid (Below w.heap.size w w11) := Lib.hid (HB_9.out.trans (hb3.mono HB_9.out.size))
  clear hb hb2 hb3 ho y0 y1 y2 y3 z0 z1 z2 z3 hsd pa_9 qa_9 xa_9 xab_9 Xa_9 Xb_9 HB_9
  go_wp2_with fail
  refine (toArmS_any ssb Ab cb nb _ ((HRb.out.below HB_11.out).call HB_11.out.size) HNb.out).mono ?_
  rintro e w12 ⟨gVb, rfl, ho, hb⟩
  have hs12 : w11.heap.size ≤ w12.heap.size := hb.size
  have pa_12 := keep1 hb pa_11
  have qa_12 := keep1 hb qa_11
  have xa_12 := keep1 hb xa_11
  have xab_12 := keep1 hb xab_11
  have Xa_12 := Lib.hid (own_below Xa_11.out hb)
  have Xb_12 := Lib.hid (own_below Xb_11.out hb)
  have HB_12 : Hid (Below w.heap.size w w12) := Lib.hid (HB_11.out.trans (hb.mono HB_11.out.size))
  have Vb_12 : Hid (w12.ownsRow w11.heap.size 33 2 (.slice (some ⟨gVb, 0, none⟩) nb nb) nb (flatA ssb)) := Lib.hid ho
  have VbL : Hid (∀ q, (Value.slice (some ⟨gVb, 0, none⟩) nb nb).ownBlock = some q → w11.heap.size ≤ q ∧ q < w12.heap.size) := Lib.hid (fun q hq => ho.lt q hq)
  clear ho hb pa_11 qa_11 xa_11 xab_11 Xa_11 Xb_11 HB_11
  go_wp2_with fail
  refine (eqArmS_any ssb _ _ _ _ _ _ _ (sa_of_own Xb_12.out HRb.out.ok) (sa_of_own Vb_12.out HRb.out.ok)).mono ?_
  rintro e w13 ⟨rfl, hb⟩
  have hs13 : w12.heap.size ≤ w13.heap.size := hb.size
  have pa_13 := keep1 hb pa_12
  have qa_13 := keep1 hb qa_12
  have xa_13 := keep1 hb xa_12
  have xab_13 := keep1 hb xab_12
  have Xa_13 := Lib.hid (own_below Xa_12.out hb)
  have Xb_13 := Lib.hid (own_below Xb_12.out hb)
  have Vb_13 := Lib.hid (own_below Vb_12.out hb)
  have HB_13 : Hid (Below w.heap.size w w13) := Lib.hid (HB_12.out.trans (hb.mono HB_12.out.size))
  clear hb  pa_12 qa_12 xa_12 xab_12 Xa_12 Xb_12 Vb_12 HB_12
  clear Vb_13
  go_wp2
  go_ret
  exact ⟨rfl, HB_13.out⟩

theorem walk (Aa : Option Addr) (na ca : Nat) (dsa : List D) (ba : Int) (Ab : Option Addr) (nb cb : Nat) (ssb : List Ar) (w : World) (hra : SD w w.heap.size Aa na ca dsa) (hba : -9223372036854775808 ≤ ba ∧ ba ≤ 9223372036854775807) (hrb : SA w w.heap.size Ab nb cb ssb) :
    Calls Try.prog 9 #[.agg #[.slice Aa na ca, .int .i64 ba], .slice Ab nb cb] w fun e w' => e = .returned (.bool true) ∧ Below w.heap.size w w' := by
  exact walkV Aa na ca dsa ba Ab nb cb ssb (mMissed dsa ba ssb) w hra hrb (Lib.hid fun A n c A2 n2 c2 w h hn h2 hn2 => specMissed_v dsa ba ssb A n c w h A2 n2 c2 h2 rfl) (Lib.hid fun A n c A2 n2 c2 w h hn h2 hn2 => implMissed_v dsa ba ssb A n c w h A2 n2 c2 h2 hn rfl)

set_option maxRecDepth 100000 in
theorem lifted (os : Os) (started : os.Started) (H : Type) (enc : TypeId × Value → H) :
    ReturnsInHanded {} Try.checked os 9 .any (Rows.fnExactFirstMissedSpec.pre6 enc Try.prog Try.f9 Rows.fnExactFirstMissedRow.domain false) (Rows.fnExactFirstMissedSpec.post enc Try.prog Try.f9 false true false false) := by
  refine returnsInHanded_of_change (C := Try.checked) own started (by kernel_rfl) Try.func9
    (ChangeSpec.witness6 (enc := enc) (C := Try.checked) false ⟨#[], #[.agg #[.slice none 0 0, .int .i64 0], .slice none 0 0], []⟩ 8 (by kernel_rfl) (by kernel_rfl) (by kernel_rfl) (by kernel_rfl)) ?_
  intro W base args ds gs before hval0 hW hcnd _
  have hval : ∀ (j : Nat) t v, Try.f9.params[j]? = some t → args[j]? = some v → Value.okWide Try.prog W .any base t v := hval0
  have hW' := hW
  obtain ⟨p, q, hA0, hV, rfl, hfz, hnd⟩ := hW
  have hA : DataW.TrodAll enc Try.prog W 0 (fun _ => true) true Try.f9.params.toList args.toList ds p := hA0
  rw [Try.params9] at hA hval
  obtain ⟨v0, vs0, d0, ds0, p0, q0, hargs, rfl, rfl, h0, r0⟩ := trodAll_cons hA
  obtain ⟨v1, vs1, d1, ds1, p1, q1, rfl, rfl, rfl, h1, r1⟩ := trodAll_cons r0
  obtain ⟨rfl, rfl, rfl⟩ := trodAll_nil r1
  obtain rfl : args = #[v0, v1] := by cases args; simp_all
  obtain ⟨rfl, rfl⟩ := trodVars_none hV
  have k0 := h0
  have lt0 : ∀ x ∈ p0, x.block < W.heap.size := by obtain ⟨m, hm⟩ := k0; exact DataW.trod_lt m _ _ _ hm
  obtain ⟨A0, n0, c0, l0, b0, rfl, w0, wb0⟩ := open_flag (hval 0 24 v0 rfl rfl) h0
  have k1 := h1
  have lt1 : ∀ x ∈ p1, x.block < W.heap.size := by obtain ⟨m, hm⟩ := k1; exact DataW.trod_lt m _ _ _ hm
  obtain ⟨A1, n1, c1, l1, rfl, w1⟩ := open_arms (hval 1 42 v1 rfl rfl) h1
  clear hA0 hval0
  refine (walk A0 n0 c0 l0 b0 A1 n1 c1 l1 W w0 wb0 w1).mono fun e W' ⟨he, bel⟩ => ?_
  subst he
  exact ⟨_, rfl, _, _, _, [], _, [], hW', trodAll_mk1 (shut_bool Try.underlying4 _), (trodAll_cons_mk (Below.trod laidOut (by kernel_rfl) (of_decide_eq_true (by kernel_rfl)) k0 bel lt0) (trodAll_cons_mk (Below.trod laidOut (by kernel_rfl) (of_decide_eq_true (by kernel_rfl)) k1 bel lt1) trodAll_mk0)), rfl, bel.frame _, fun h => by cases h⟩

theorem over : Rows.fnExactFirstMissedRow.holds Try.pinned (OpenSpec.ofChange Rows.fnExactFirstMissedSpec) :=
  OpenClaim.holds_of_wide 9 Try.f9 rfl rfl rfl rfl rfl rfl rfl ⟨rfl, rfl, rfl, rfl, rfl⟩ rfl rfl rfl rfl rfl (by kernel_rfl) Try.func9 (by kernel_rfl)
    (of_decide_eq_true (by kernel_rfl)) (by unfold Func.isWrapper; first | (rw [if_pos (by decide +kernel)]; kernel_rfl) | (rw [if_neg (by decide +kernel)]; exact ⟨rfl, rfl⟩))
    (fun os started H enc _ => lifted os started H enc)

theorem proved : Rows.FnExactFirstMissedSaid := over
end Go.Proofs.Ytdgngpponbgklaa.fnExactFirstMissed
