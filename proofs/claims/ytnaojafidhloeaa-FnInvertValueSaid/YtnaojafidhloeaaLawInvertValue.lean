/-
For every code the law of inverted values with nothing in common returns true.
Conditions: none.
-/
import Derived.Test.YtnaojafidhloeaaGenV
import Derived.Test.YtnaojafidhloeaaOpenC
import Derived.Test.YtnaojafidhloeaaLFlag
import Derived.Test.YtnaojafidhloeaaLAlg
import Derived.Test.YtnaojafidhloeaaAlgS
import Derived.Test.YtnaojafidhloeaaAlgI
import Derived.Test.YtnaojafidhloeaaLKept
import Derived.Test.YtnaojafidhloeaaGenW
namespace Go.Proofs.Ytnaojafidhloeaa.fnInvertValue
open Go.ChangeShapes Go.WideShapes Go.ChangeAt Go.RowKit
open Go.ChangeMaps (open_string shut_string)
set_option linter.unusedVariables false
set_option maxRecDepth 100000

set_option maxHeartbeats 16000000 in
theorem walk (A : Option Addr) (n c : Nat) (zs : List Int) (w : World) (h : SB w w.heap.size A n c zs) :
    Calls Try.prog 12 #[.slice A n c] w fun e w' => e = .returned (.bool true) ∧ Below w.heap.size w w' := by
  have hm := h.max
  have hcap := h.cap
  unfold maxLen at hm
  have HS0 := Lib.hid h
  clear h
  by_cases hbig : 1048576 < (n : Int)
  · go_enter Try.func12, Try.ntmps12
    go_wp2
    go_ret
    exact ⟨rfl, Below.refl _ _⟩
  go_enter Try.func12, Try.ntmps12
  go_wp2_with fail
  refine (drawInvertValue_any A n c zs _ HS0.out).mono ?_
  rintro e w1 ⟨Aa, ca, dsa, ba, xa, rfl, hna, hsma, hbda, hxa, hsa, hb⟩
  have HB_1 := Lib.hid hb
  have Sa_1 := Lib.hid hsa
  have HSMa := Lib.hid hsma
  have HOKa : Hid (∀ d ∈ dsa, d.ok) := Lib.hid (fun d hd => small_ok (hsma d hd))
  have HBDa := Lib.hid hbda
  clear hb hsa hsma hbda
  obtain ⟨w2, hw⟩ : ∃ W : World, W = (w1.alloc (.cells #[.slice Aa dsa.length ca, .int .i64 ba] 25)) := ⟨_, rfl⟩
  have hb : Below w1.heap.size w1 w2 := by rw [hw]; exact ((Below.refl _ _).alloc (by first | exact Nat.le_refl _ | (simp; done) | (simp; omega)) _)
  have Sa_2 := Lib.hid ((Sa_1.out.below hb).call hb.size)
  have HB_2 : Hid (Below w.heap.size w w2) := Lib.hid (HB_1.out.trans (hb.mono HB_1.out.size))
  have ba_2 : w2.cell? ⟨w1.heap.size, 0, none⟩ = some (.slice Aa dsa.length ca) := by rw [hw]; simp [go_sem]
  have va_2 : w2.cell? ⟨w1.heap.size, 1, none⟩ = some (.int .i64 ba) := by rw [hw]; simp [go_sem]
  have lf_ba : (w1.alloc (.cells #[.slice Aa dsa.length ca, .int .i64 ba] 25)).cell? ⟨w1.heap.size, 0, none⟩ = some (.slice Aa dsa.length ca) := by rw [← hw]; exact ba_2
  have lf_va : (w1.alloc (.cells #[.slice Aa dsa.length ca, .int .i64 ba] 25)).cell? ⟨w1.heap.size, 1, none⟩ = some (.int .i64 ba) := by rw [← hw]; exact va_2
  have HW2 : Hid ((w1.alloc (.cells #[.slice Aa dsa.length ca, .int .i64 ba] 25)) = w2) := Lib.hid hw.symm
  clear hb hw Sa_1 HB_1
  obtain ⟨r, hr⟩ : ∃ r, mInv dsa ba xa = r := ⟨_, rfl⟩
  have HR := Lib.hid hr
  clear hr
  go_wp2_with fail
  rw [HW2.out]
  clear lf_ba lf_va
  refine (implInv_v dsa ba xa _ _ _ _ Sa_2.out (by omega) HR.out).mono ?_
  rintro e w3 ⟨rfl, hb⟩
  have ba_3 := keep1 hb ba_2
  have va_3 := keep1 hb va_2
  have Sa_3 := Lib.hid ((Sa_2.out.below hb).call hb.size)
  have HB_3 : Hid (Below w.heap.size w w3) := Lib.hid (HB_2.out.trans (hb.mono HB_2.out.size))
  clear hb  ba_2 va_2 Sa_2 HB_2
  go_wp2_with fail
  refine (specInv_v dsa ba xa _ _ _ _ Sa_3.out HR.out).mono ?_
  rintro e w4 ⟨rfl, hb⟩
  have ba_4 := keep1 hb ba_3
  have va_4 := keep1 hb va_3
  have Sa_4 := Lib.hid ((Sa_3.out.below hb).call hb.size)
  have HB_4 : Hid (Below w.heap.size w w4) := Lib.hid (HB_3.out.trans (hb.mono HB_3.out.size))
  clear hb  ba_3 va_3 Sa_3 HB_3
  by_cases h0 : r < 0
  · skip
    go_wp2_with fail
    refine (specInv_v dsa ba xa _ _ _ _ Sa_4.out HR.out).mono ?_
    rintro e w5 ⟨rfl, hb⟩
    have ba_5 := keep1 hb ba_4
    have va_5 := keep1 hb va_4
    have Sa_5 := Lib.hid ((Sa_4.out.below hb).call hb.size)
    have HB_5 : Hid (Below w.heap.size w w5) := Lib.hid (HB_4.out.trans (hb.mono HB_4.out.size))
    clear hb  ba_4 va_4 Sa_4 HB_4
    go_wp2
    go_ret
    exact ⟨rfl, HB_5.out⟩
  have hvx : mIsV dsa ba xa = true := by
    cases h : mIsV dsa ba xa
    · exact absurd (by rw [← HR.out]; unfold mInv; rw [h, if_neg (by decide)]; decide) h0
    · rfl
  obtain ⟨p, rfl, hp⟩ := mIsV_nat hvx
  have HVp := Lib.hid hvx
  have HFL := Lib.hid (mIsV_flag hvx)
  have hin := vFlag_in HFL.out
  obtain ⟨wh, qw⟩ : ∃ wh, mWhole dsa ba = wh := ⟨_, rfl⟩
  have hwh : wh < 4096 := by rw [← qw]; exact mWhole_lt hin
  obtain ⟨m, qm⟩ : ∃ m, mMask dsa = m := ⟨_, rfl⟩
  have hm : m < 4096 := by rw [← qm]; exact mMask_lt12 hin
  obtain ⟨hi, qh⟩ : ∃ hi, mHigh dsa = hi := ⟨_, rfl⟩
  have hhi : hi < 4096 := by rw [← qh]; exact mHigh_lt hin
  have HVm : Hid (mIsV dsa ba (m : Nat) = true) := Lib.hid (by rw [← qm]; exact v_mask HFL.out)
  have hmh : nl m hi = 0 := by rw [← qm, ← qh]; exact mask_high hin
  have hmw : nl m wh = 0 := by
    rw [← qw]; unfold mWhole; split
    · rw [qh]; exact hmh
    · rw [qm]; exact part_self _
  have hwhi : nl wh hi = 0 := by
    rw [← qw]; unfold mWhole; split
    · rw [qh]; exact part_self _
    · rw [qm]; exact hmh
  obtain ⟨o, qo⟩ : ∃ o, nl wh p = o := ⟨_, rfl⟩
  have ho : o < 4096 := by rw [← qo]; exact nl_lt hwh
  have HVo : Hid (mIsV dsa ba (o : Nat) = true) := Lib.hid (by rw [← qo, ← qw]; exact v_inv HFL.out)
  obtain rfl : r = (o : Int) := by rw [← HR.out]; exact inv_is HVp.out (by rw [qw, qo])
  obtain ⟨u, qu⟩ : ∃ u, p ||| o = u := ⟨_, rfl⟩
  have hu : u < 4096 := by rw [← qu]; exact or_lt hp ho
  have HVu : Hid (mIsV dsa ba (u : Nat) = true) := Lib.hid (by rw [← qu]; exact v_or HVp.out HVo.out)
  have H1 : Hid (mOp orN dsa ba (p : Nat) (o : Nat) = (u : Int)) := Lib.hid (op_is HVp.out HVo.out (by exact qu))
  obtain ⟨v, qv⟩ : ∃ v, mHas dsa ba (m : Nat) (p : Nat) = v := ⟨_, rfl⟩
  have H2 := Lib.hid qv
  have hvp : v = decide (nl p m = 0) := by rw [← qv]; exact has_is HVm.out HVp.out rfl
  obtain ⟨t, qt⟩ : ∃ t, nl wh o = t := ⟨_, rfl⟩
  have ht4 : t < 4096 := by rw [← qt]; exact nl_lt hwh
  have H3 : Hid (mInv dsa ba (o : Nat) = (t : Int)) := Lib.hid (inv_is HVo.out (by rw [qw, qt]))
  have HVT : v = true → ((t : Int) == (p : Int)) = true := by
    intro h
    rw [h] at hvp
    have h9 : nl p m = 0 := by simpa using hvp.symm
    rw [beq_iff_eq, ← qt, ← qo, bi2 (by rw [nl_zero] at *; exact fun i h => hmw i (h9 i h))]
  have H4 : Hid (mOp andN dsa ba (p : Nat) (o : Nat) = 0) := Lib.hid (op_is (r := 0) HVp.out HVo.out (by rw [← qo]; exact bi1 _ _))
  have H5 : Hid (mHas dsa ba (u : Nat) (m : Nat) = true) := Lib.hid (has_is HVu.out HVm.out (decide_eq_true (by rw [← qu, ← qo]; exact bi5 hmw)))
  have HMK : Hid (mMaskOf dsa ba = (m : Int)) := Lib.hid (by rw [← qm]; exact if_yes HFL.out)
  have HHI : Hid (mHighOf dsa ba = (hi : Int)) := Lib.hid (by rw [← qh]; exact if_yes HFL.out)
  have HV1 : Hid (mIsV dsa 3 (hi : Nat) = true) := Lib.hid (mIsV_of (vFlag_3 HFL.out) hhi (.inl rfl))
  have HV2 : Hid (mIsV dsa 3 (o : Nat) = true) := Lib.hid (mIsV_of (vFlag_3 HFL.out) ho (.inl rfl))
  have H6 : Hid (mHas dsa 3 (hi : Nat) (o : Nat) = true) := Lib.hid (has_is HV1.out HV2.out (decide_eq_true (by rw [← qo]; rw [nl_zero] at *; intro i h; rw [tb_nl, Bool.and_eq_true] at h; exact hwhi i h.1)))
  clear qv qt hvp hmh hmw hwhi hin hvx h0 HV1 HV2
  clear qw qm qh qo qu
  go_wp2_with fail
  refine (implOr_v dsa ba p o _ _ _ _ Sa_4.out (by omega) H1.out).mono ?_
  rintro e w5 ⟨rfl, hb⟩
  have ba_5 := keep1 hb ba_4
  have va_5 := keep1 hb va_4
  have Sa_5 := Lib.hid ((Sa_4.out.below hb).call hb.size)
  have HB_5 : Hid (Below w.heap.size w w5) := Lib.hid (HB_4.out.trans (hb.mono HB_4.out.size))
  clear hb  ba_4 va_4 Sa_4 HB_4
  cases v
  · skip
    clear HVT
    go_wp2_with fail
    refine wp_region_still (by kernel_rfl) (by kernel_rfl) ?_
    refine BigFrame.wpQuiet_want (by rfl) (fun K hK => ⟨.agg #[.slice Aa dsa.length ca, .int .i64 ba], fun w' hw' => ?_, ?_⟩)
    · have c0 := keep1 hw' ba_5
      have c1 := keep1 hw' va_5
      unfold Oper.quietAt
      go_simp
    go_simp
    refine hK _ ?_
    clear hK K
    refine BigFrame.wpQuiet_want (by rfl) (fun K hK => ⟨.agg #[.slice Aa dsa.length ca, .int .i64 ba], fun w' hw' => ?_, ?_⟩)
    · have c0 := keep1 hw' ba_5
      have c1 := keep1 hw' va_5
      unfold Oper.quietAt
      go_simp
    go_simp
    refine hK _ ?_
    clear hK K
    refine BigFrame.wpQuiet_want (by rfl) (fun K hK => ⟨.int .i64 m, fun w' hw' => ?_, ?_⟩)
    · unfold Oper.quietAt
      go_simp
      exact (implMaskOf_v dsa ba _ _ _ _ ((Sa_5.out.below hw').call hw'.size) (by omega) HMK.out).mono fun e w1 ⟨he, hb⟩ => ⟨he, hw'.trans (hb.mono hw'.size)⟩
    go_simp
    refine hK _ ?_
    clear hK K
    go_big_quiet_step (exact fun _ => rfl)
    refine BigFrame.wpQuiet_want (by rfl) (fun K hK => ⟨.bool false, fun w' hw' => ?_, ?_⟩)
    · unfold Oper.quietAt
      go_simp
      exact (implHas_v dsa ba m p _ _ _ _ ((Sa_5.out.below hw').call hw'.size) (by omega) H2.out).mono fun e w1 ⟨he, hb⟩ => ⟨he, hw'.trans (hb.mono hw'.size)⟩
    go_simp
    refine hK _ ?_
    clear hK K
    go_big_quiet_step (exact fun _ => rfl)
    go_big_quiet_step (exact fun _ => rfl)
    go_big_quiet_step (exact fun _ => rfl)
    go_big_quiet_step (exact fun _ => rfl)
    go_big_quiet_step (exact fun _ => rfl)
    go_big_quiet_step (exact fun _ => rfl)
    go_big_quiet_step (exact fun _ => rfl)
    refine wpQuiet_nil ?_
    intro w6 hb
    have ba_6 := keep1 hb ba_5
    have va_6 := keep1 hb va_5
    have Sa_6 := Lib.hid ((Sa_5.out.below hb).call hb.size)
    have HB_6 : Hid (Below w.heap.size w w6) := Lib.hid (HB_5.out.trans (hb.mono HB_5.out.size))
    clear hb ba_5 va_5 Sa_5 HB_5
    go_wp2_with fail
    go_region_held3 (fun w' => w'.cell? ⟨w1.heap.size, 0, none⟩ = some (.slice Aa dsa.length ca) ∧ w'.cell? ⟨w1.heap.size, 1, none⟩ = some (.int .i64 ba))
      (first | go_keep | exact ⟨ba_6, va_6⟩ | exact ⟨ba_7, va_7⟩ | exact ⟨ba_8, va_8⟩ | exact ⟨ba_9, va_9⟩ | exact ⟨ba_10, va_10⟩ | exact ⟨ba_11, va_11⟩ | exact ⟨ba_12, va_12⟩ | exact ⟨ba_13, va_13⟩)
      (first
        | (go_at_call 39; refine (implAnd_v dsa ba p o _ _ _ _ (Sa_6.out.drewN 1) (by omega) H4.out).mono ?_; rintro e w7 ⟨rfl, hb⟩; replace hb : Below w6.heap.size w6 w7 := (by first | exact hb | exact undrew hb); have ba_7 := keep1 hb ba_6; have va_7 := keep1 hb va_6; have Sa_7 := Lib.hid ((Sa_6.out.below hb).call hb.size); have HB_7 : Hid (Below w.heap.size w w7) := Lib.hid (HB_6.out.trans (hb.mono HB_6.out.size)); clear hb)
        | (go_at_call 21; refine (implIsV_v dsa ba o _ _ _ _ Sa_7.out (by omega) HVo.out).mono ?_; rintro e w8 ⟨rfl, hb⟩; have ba_8 := keep1 hb ba_7; have va_8 := keep1 hb va_7; have Sa_8 := Lib.hid ((Sa_7.out.below hb).call hb.size); have HB_8 : Hid (Below w.heap.size w w8) := Lib.hid (HB_7.out.trans (hb.mono HB_7.out.size)); clear hb)
        | (go_at_call 16; refine (implMaskOf_v dsa ba _ _ _ _ Sa_8.out (by omega) HMK.out).mono ?_; rintro e w9 ⟨rfl, hb⟩; have ba_9 := keep1 hb ba_8; have va_9 := keep1 hb va_8; have Sa_9 := Lib.hid ((Sa_8.out.below hb).call hb.size); have HB_9 : Hid (Below w.heap.size w w9) := Lib.hid (HB_8.out.trans (hb.mono HB_8.out.size)); clear hb)
        | (go_at_call_of 18 (Value.agg #[.slice Aa dsa.length ca, .int .i64 ba]); refine (implHas_v dsa ba u m _ _ _ _ Sa_9.out (by omega) H5.out).mono ?_; rintro e w10 ⟨rfl, hb⟩; have ba_10 := keep1 hb ba_9; have va_10 := keep1 hb va_9; have Sa_10 := Lib.hid ((Sa_9.out.below hb).call hb.size); have HB_10 : Hid (Below w.heap.size w w10) := Lib.hid (HB_9.out.trans (hb.mono HB_9.out.size)); clear hb)
        | (go_at_call 19; refine (kept_any dsa ba _ _ _ _ Sa_10.out (by omega) HFL.out).mono ?_; rintro e w11 ⟨Ak, ck, rfl, ho2, hb⟩; have ba_11 := keep1 hb ba_10; have va_11 := keep1 hb va_10; have Sa_11 := Lib.hid ((Sa_10.out.below hb).call hb.size); have HB_11 : Hid (Below w.heap.size w w11) := Lib.hid (HB_10.out.trans (hb.mono HB_10.out.size)); have Sk_11 := Lib.hid (sd_of_own ho2 HOKa.out); clear hb)
        | (go_at_call 28; refine (implHighOf_v dsa ba _ _ _ _ Sa_11.out (by omega) HHI.out).mono ?_; rintro e w12 ⟨rfl, hb⟩; have ba_12 := keep1 hb ba_11; have va_12 := keep1 hb va_11; have Sa_12 := Lib.hid ((Sa_11.out.below hb).call hb.size); have Sk_12 := Lib.hid ((Sk_11.out.below hb).call hb.size); have HB_12 : Hid (Below w.heap.size w w12) := Lib.hid (HB_11.out.trans (hb.mono HB_11.out.size)); clear hb)
        | (go_at_call_of 18 (Value.agg #[.slice Ak dsa.length ck, .int .i64 3]); refine (implHas_v dsa 3 hi o _ _ _ _ Sk_12.out (by omega) H6.out).mono ?_; rintro e w13 ⟨rfl, hb⟩; have ba_13 := keep1 hb ba_12; have va_13 := keep1 hb va_12; have Sa_13 := Lib.hid ((Sa_12.out.below hb).call hb.size); have Sk_13 := Lib.hid ((Sk_12.out.below hb).call hb.size); have HB_13 : Hid (Below w.heap.size w w13) := Lib.hid (HB_12.out.trans (hb.mono HB_12.out.size)); clear hb))
    go_wp2
    go_ret
    exact ⟨rfl, HB_13.out⟩
  have e1 := HVT rfl
  clear HVT
  go_wp2_with fail
  refine wp_region_still (by kernel_rfl) (by kernel_rfl) ?_
  refine BigFrame.wpQuiet_want (by rfl) (fun K hK => ⟨.agg #[.slice Aa dsa.length ca, .int .i64 ba], fun w' hw' => ?_, ?_⟩)
  · have c0 := keep1 hw' ba_5
    have c1 := keep1 hw' va_5
    unfold Oper.quietAt
    go_simp
  go_simp
  refine hK _ ?_
  clear hK K
  refine BigFrame.wpQuiet_want (by rfl) (fun K hK => ⟨.agg #[.slice Aa dsa.length ca, .int .i64 ba], fun w' hw' => ?_, ?_⟩)
  · have c0 := keep1 hw' ba_5
    have c1 := keep1 hw' va_5
    unfold Oper.quietAt
    go_simp
  go_simp
  refine hK _ ?_
  clear hK K
  refine BigFrame.wpQuiet_want (by rfl) (fun K hK => ⟨.int .i64 m, fun w' hw' => ?_, ?_⟩)
  · unfold Oper.quietAt
    go_simp
    exact (implMaskOf_v dsa ba _ _ _ _ ((Sa_5.out.below hw').call hw'.size) (by omega) HMK.out).mono fun e w1 ⟨he, hb⟩ => ⟨he, hw'.trans (hb.mono hw'.size)⟩
  go_simp
  refine hK _ ?_
  clear hK K
  go_big_quiet_step (exact fun _ => rfl)
  refine BigFrame.wpQuiet_want (by rfl) (fun K hK => ⟨.bool true, fun w' hw' => ?_, ?_⟩)
  · unfold Oper.quietAt
    go_simp
    exact (implHas_v dsa ba m p _ _ _ _ ((Sa_5.out.below hw').call hw'.size) (by omega) H2.out).mono fun e w1 ⟨he, hb⟩ => ⟨he, hw'.trans (hb.mono hw'.size)⟩
  go_simp
  refine hK _ ?_
  clear hK K
  go_big_quiet_step (exact fun _ => rfl)
  refine BigFrame.wpQuiet_want (by rfl) (fun K hK => ⟨.agg #[.slice Aa dsa.length ca, .int .i64 ba], fun w' hw' => ?_, ?_⟩)
  · have c0 := keep1 hw' ba_5
    have c1 := keep1 hw' va_5
    unfold Oper.quietAt
    go_simp
  go_simp
  refine hK _ ?_
  clear hK K
  go_big_quiet_step (exact fun _ => rfl)
  refine BigFrame.wpQuiet_want (by rfl) (fun K hK => ⟨.int .i64 t, fun w' hw' => ?_, ?_⟩)
  · unfold Oper.quietAt
    go_simp
    exact (implInv_v dsa ba o _ _ _ _ ((Sa_5.out.below hw').call hw'.size) (by omega) H3.out).mono fun e w1 ⟨he, hb⟩ => ⟨he, hw'.trans (hb.mono hw'.size)⟩
  go_simp
  refine hK _ ?_
  clear hK K
  go_big_quiet_step (exact fun _ => rfl)
  go_big_quiet_step (exact fun _ => rfl)
  go_big_quiet_step (exact fun _ => rfl)
  refine wpQuiet_nil ?_
  intro w6 hb
  have ba_6 := keep1 hb ba_5
  have va_6 := keep1 hb va_5
  have Sa_6 := Lib.hid ((Sa_5.out.below hb).call hb.size)
  have HB_6 : Hid (Below w.heap.size w w6) := Lib.hid (HB_5.out.trans (hb.mono HB_5.out.size))
  clear hb ba_5 va_5 Sa_5 HB_5
  go_wp2_with fail
  go_region_held3 (fun w' => w'.cell? ⟨w1.heap.size, 0, none⟩ = some (.slice Aa dsa.length ca) ∧ w'.cell? ⟨w1.heap.size, 1, none⟩ = some (.int .i64 ba))
    (first | go_keep | exact ⟨ba_6, va_6⟩ | exact ⟨ba_7, va_7⟩ | exact ⟨ba_8, va_8⟩ | exact ⟨ba_9, va_9⟩ | exact ⟨ba_10, va_10⟩ | exact ⟨ba_11, va_11⟩ | exact ⟨ba_12, va_12⟩ | exact ⟨ba_13, va_13⟩)
    (first
      | (go_at_call 39; refine (implAnd_v dsa ba p o _ _ _ _ (Sa_6.out.drewN 1) (by omega) H4.out).mono ?_; rintro e w7 ⟨rfl, hb⟩; replace hb : Below w6.heap.size w6 w7 := (by first | exact hb | exact undrew hb); have ba_7 := keep1 hb ba_6; have va_7 := keep1 hb va_6; have Sa_7 := Lib.hid ((Sa_6.out.below hb).call hb.size); have HB_7 : Hid (Below w.heap.size w w7) := Lib.hid (HB_6.out.trans (hb.mono HB_6.out.size)); clear hb)
      | (go_at_call 21; refine (implIsV_v dsa ba o _ _ _ _ Sa_7.out (by omega) HVo.out).mono ?_; rintro e w8 ⟨rfl, hb⟩; have ba_8 := keep1 hb ba_7; have va_8 := keep1 hb va_7; have Sa_8 := Lib.hid ((Sa_7.out.below hb).call hb.size); have HB_8 : Hid (Below w.heap.size w w8) := Lib.hid (HB_7.out.trans (hb.mono HB_7.out.size)); clear hb)
      | (go_at_call 16; refine (implMaskOf_v dsa ba _ _ _ _ Sa_8.out (by omega) HMK.out).mono ?_; rintro e w9 ⟨rfl, hb⟩; have ba_9 := keep1 hb ba_8; have va_9 := keep1 hb va_8; have Sa_9 := Lib.hid ((Sa_8.out.below hb).call hb.size); have HB_9 : Hid (Below w.heap.size w w9) := Lib.hid (HB_8.out.trans (hb.mono HB_8.out.size)); clear hb)
      | (go_at_call_of 18 (Value.agg #[.slice Aa dsa.length ca, .int .i64 ba]); refine (implHas_v dsa ba u m _ _ _ _ Sa_9.out (by omega) H5.out).mono ?_; rintro e w10 ⟨rfl, hb⟩; have ba_10 := keep1 hb ba_9; have va_10 := keep1 hb va_9; have Sa_10 := Lib.hid ((Sa_9.out.below hb).call hb.size); have HB_10 : Hid (Below w.heap.size w w10) := Lib.hid (HB_9.out.trans (hb.mono HB_9.out.size)); clear hb)
      | (go_at_call 19; refine (kept_any dsa ba _ _ _ _ Sa_10.out (by omega) HFL.out).mono ?_; rintro e w11 ⟨Ak, ck, rfl, ho2, hb⟩; have ba_11 := keep1 hb ba_10; have va_11 := keep1 hb va_10; have Sa_11 := Lib.hid ((Sa_10.out.below hb).call hb.size); have HB_11 : Hid (Below w.heap.size w w11) := Lib.hid (HB_10.out.trans (hb.mono HB_10.out.size)); have Sk_11 := Lib.hid (sd_of_own ho2 HOKa.out); clear hb)
      | (go_at_call 28; refine (implHighOf_v dsa ba _ _ _ _ Sa_11.out (by omega) HHI.out).mono ?_; rintro e w12 ⟨rfl, hb⟩; have ba_12 := keep1 hb ba_11; have va_12 := keep1 hb va_11; have Sa_12 := Lib.hid ((Sa_11.out.below hb).call hb.size); have Sk_12 := Lib.hid ((Sk_11.out.below hb).call hb.size); have HB_12 : Hid (Below w.heap.size w w12) := Lib.hid (HB_11.out.trans (hb.mono HB_11.out.size)); clear hb)
      | (go_at_call_of 18 (Value.agg #[.slice Ak dsa.length ck, .int .i64 3]); refine (implHas_v dsa 3 hi o _ _ _ _ Sk_12.out (by omega) H6.out).mono ?_; rintro e w13 ⟨rfl, hb⟩; have ba_13 := keep1 hb ba_12; have va_13 := keep1 hb va_12; have Sa_13 := Lib.hid ((Sa_12.out.below hb).call hb.size); have Sk_13 := Lib.hid ((Sk_12.out.below hb).call hb.size); have HB_13 : Hid (Below w.heap.size w w13) := Lib.hid (HB_12.out.trans (hb.mono HB_12.out.size)); clear hb))
  go_wp2
  go_ret
  exact ⟨rfl, HB_13.out⟩

theorem lifted (os : Os) (started : os.Started) (H : Type) (enc : TypeId × Value → H) :
    ReturnsInHanded {} Try.checked os 12 .any (Rows.fnInvertValueSpec.pre6 enc Try.prog Try.f12 Rows.fnInvertValueRow.domain false) (Rows.fnInvertValueSpec.post enc Try.prog Try.f12 false true false false) := by
  refine returnsInHanded_of_change (C := Try.checked) own started (by kernel_rfl) Try.func12
    (ChangeSpec.witness6 (enc := enc) (C := Try.checked) false ⟨#[], #[.slice none 0 0], []⟩ 8 (by kernel_rfl) (by kernel_rfl) (by kernel_rfl) (by kernel_rfl)) ?_
  intro W base args ds gs before hval0 hW hcnd _
  have hval : ∀ (j : Nat) t v, Try.f12.params[j]? = some t → args[j]? = some v → Value.okWide Try.prog W .any base t v := hval0
  have hW' := hW
  obtain ⟨p, q, hA0, hV, rfl, hfz, hnd⟩ := hW
  have hA : DataW.TrodAll enc Try.prog W 0 (fun _ => true) true Try.f12.params.toList args.toList ds p := hA0
  rw [Try.params12] at hA hval
  obtain ⟨v0, vs0, d0, ds0, p0, q0, hargs, rfl, rfl, h0, r0⟩ := trodAll_cons hA
  obtain ⟨rfl, rfl, rfl⟩ := trodAll_nil r0
  obtain rfl : args = #[v0] := by cases args; simp_all
  obtain ⟨rfl, rfl⟩ := trodVars_none hV
  have k0 := h0
  have lt0 : ∀ x ∈ p0, x.block < W.heap.size := by obtain ⟨m, hm⟩ := k0; exact DataW.trod_lt m _ _ _ hm
  obtain ⟨A0, n0, c0, l0, rfl, w0⟩ := open_code (hval 0 22 v0 rfl rfl) h0
  clear hA0 hval0
  refine (walk A0 n0 c0 l0 W w0).mono fun e W' ⟨he, bel⟩ => ?_
  subst he
  exact ⟨_, rfl, _, _, _, [], _, [], hW', trodAll_mk1 (shut_bool Try.underlying4 _), (trodAll_cons_mk (Below.trod laidOut (by kernel_rfl) (of_decide_eq_true (by kernel_rfl)) k0 bel lt0) trodAll_mk0), rfl, bel.frame _, fun h => by cases h⟩

theorem over : Rows.fnInvertValueRow.holds Try.pinned (OpenSpec.ofChange Rows.fnInvertValueSpec) :=
  OpenClaim.holds_of_wide 12 Try.f12 rfl rfl rfl rfl rfl rfl rfl ⟨rfl, rfl, rfl, rfl, rfl⟩ rfl rfl rfl rfl rfl (by kernel_rfl) Try.func12 (by kernel_rfl)
    (of_decide_eq_true (by kernel_rfl)) (by unfold Func.isWrapper; first | (rw [if_pos (by decide +kernel)]; kernel_rfl) | (rw [if_neg (by decide +kernel)]; exact ⟨rfl, rfl⟩))
    (fun os started H enc _ => lifted os started H enc)

theorem proved : Rows.FnInvertValueSaid := over
end Go.Proofs.Ytnaojafidhloeaa.fnInvertValue
