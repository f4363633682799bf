/-
For every code the law of loose bits that have no name returns true.
Conditions: none.
-/
import Derived.Test.YtnaojafidhloeaaGenG
import Derived.Test.YtnaojafidhloeaaOpenC
import Derived.Test.YtnaojafidhloeaaLFlag
import Derived.Test.YtnaojafidhloeaaLAlgN
import Derived.Test.YtnaojafidhloeaaAlgJ
import Derived.Test.YtnaojafidhloeaaFlagN
import Derived.Test.YtnaojafidhloeaaFlagS
namespace Go.Proofs.Ytnaojafidhloeaa.fnLooseBits
open Go.ChangeShapes Go.WideShapes Go.ChangeAt Go.RowKit
open Go.ChangeMaps (open_string shut_string)
set_option linter.unusedVariables false
set_option maxRecDepth 100000

set_option maxHeartbeats 16000000 in
theorem walk (A : Option Addr) (n c : Nat) (zs : List Int) (w : World) (h : SB w w.heap.size A n c zs) :
    Calls Try.prog 4 #[.slice A n c] w fun e w' => e = .returned (.bool true) ∧ Below w.heap.size w w' := by
  have hm := h.max
  have hcap := h.cap
  unfold maxLen at hm
  have HS0 := Lib.hid h
  clear h
  by_cases hbig : 1048576 < (n : Int)
  · go_enter Try.func4, Try.ntmps4
    go_wp2
    go_ret
    exact ⟨rfl, Below.refl _ _⟩
  go_enter Try.func4, Try.ntmps4
  go_wp2_with fail
  refine (drawLooseBits_any A n c zs _ HS0.out).mono ?_
  rintro e w1 ⟨Aa, ca, dsa, ba, rfl, hna, hsma, hbda, hsa, hb⟩
  have HB_1 := Lib.hid hb
  have Sa_1 := Lib.hid hsa
  have HSMa := Lib.hid hsma
  have HOKa : Hid (∀ d ∈ dsa, d.ok) := Lib.hid (fun d hd => small_ok (hsma d hd))
  have HBDa := Lib.hid hbda
  clear hb hsa hsma hbda
  obtain ⟨w2, hw⟩ : ∃ W : World, W = (w1.alloc (.cells #[.slice Aa dsa.length ca, .int .i64 ba] 25)) := ⟨_, rfl⟩
  have hb : Below w1.heap.size w1 w2 := by rw [hw]; exact ((Below.refl _ _).alloc (by first | exact Nat.le_refl _ | (simp; done) | (simp; omega)) _)
  have Sa_2 := Lib.hid ((Sa_1.out.below hb).call hb.size)
  have HB_2 : Hid (Below w.heap.size w w2) := Lib.hid (HB_1.out.trans (hb.mono HB_1.out.size))
  have ba_2 : w2.cell? ⟨w1.heap.size, 0, none⟩ = some (.slice Aa dsa.length ca) := by rw [hw]; simp [go_sem]
  have va_2 : w2.cell? ⟨w1.heap.size, 1, none⟩ = some (.int .i64 ba) := by rw [hw]; simp [go_sem]
  have lf_ba : (w1.alloc (.cells #[.slice Aa dsa.length ca, .int .i64 ba] 25)).cell? ⟨w1.heap.size, 0, none⟩ = some (.slice Aa dsa.length ca) := by rw [← hw]; exact ba_2
  have lf_va : (w1.alloc (.cells #[.slice Aa dsa.length ca, .int .i64 ba] 25)).cell? ⟨w1.heap.size, 1, none⟩ = some (.int .i64 ba) := by rw [← hw]; exact va_2
  have HW2 : Hid ((w1.alloc (.cells #[.slice Aa dsa.length ca, .int .i64 ba] 25)) = w2) := Lib.hid hw.symm
  clear hb hw Sa_1 HB_1
  obtain ⟨r, hr⟩ : ∃ r, mLooseOf dsa ba = r := ⟨_, rfl⟩
  have HR := Lib.hid hr
  clear hr
  go_wp2_with fail
  rw [HW2.out]
  clear lf_ba lf_va
  refine (implLooseOf_v dsa ba _ _ _ _ Sa_2.out (by omega) HR.out).mono ?_
  rintro e w3 ⟨rfl, hb⟩
  have ba_3 := keep1 hb ba_2
  have va_3 := keep1 hb va_2
  have Sa_3 := Lib.hid ((Sa_2.out.below hb).call hb.size)
  have HB_3 : Hid (Below w.heap.size w w3) := Lib.hid (HB_2.out.trans (hb.mono HB_2.out.size))
  clear hb  ba_2 va_2 Sa_2 HB_2
  go_wp2_with fail
  refine (specLooseOf_v dsa ba _ _ _ _ Sa_3.out HR.out).mono ?_
  rintro e w4 ⟨rfl, hb⟩
  have ba_4 := keep1 hb ba_3
  have va_4 := keep1 hb va_3
  have Sa_4 := Lib.hid ((Sa_3.out.below hb).call hb.size)
  have HB_4 : Hid (Below w.heap.size w w4) := Lib.hid (HB_3.out.trans (hb.mono HB_3.out.size))
  clear hb  ba_3 va_3 Sa_3 HB_3
  by_cases h0 : r < 0
  · skip
    go_wp2_with fail
    refine (specLooseOf_v dsa ba _ _ _ _ Sa_4.out HR.out).mono ?_
    rintro e w5 ⟨rfl, hb⟩
    have ba_5 := keep1 hb ba_4
    have va_5 := keep1 hb va_4
    have Sa_5 := Lib.hid ((Sa_4.out.below hb).call hb.size)
    have HB_5 : Hid (Below w.heap.size w w5) := Lib.hid (HB_4.out.trans (hb.mono HB_4.out.size))
    clear hb  ba_4 va_4 Sa_4 HB_4
    go_wp2
    go_ret
    exact ⟨rfl, HB_5.out⟩
  have hv : vFlag dsa ba = true := by
    cases h : vFlag dsa ba
    · exact absurd (by rw [← HR.out]; unfold mLooseOf; rw [h, if_neg (by decide)]; decide) h0
    · rfl
  have hin := vFlag_in hv
  obtain ⟨m, qm⟩ : ∃ m, mMask dsa = m := ⟨_, rfl⟩
  have hm : m < 4096 := by rw [← qm]; exact mMask_lt12 hin
  obtain ⟨q, qq⟩ : ∃ q, mMask (mSg dsa) = q := ⟨_, rfl⟩
  have hq : q < 4096 := by rw [← qq]; exact mMask_lt12 (mSg_in hin)
  obtain ⟨o, qo⟩ : ∃ o, nl m q = o := ⟨_, rfl⟩
  have hsub : ∀ d ∈ mSg dsa, d ∈ dsa := fun d hd => (sgTo_in hd).1
  have hpart : nl q m = 0 := by rw [← qq, ← qm]; exact part_mask hsub
  have hsum : o + q = m := by have h1 := nl_add_and m q; rw [(has_and m q).1 hpart, qo] at h1; exact h1
  obtain rfl : r = (o : Int) := by rw [← HR.out]; unfold mLooseOf mLoose; rw [hv, if_pos rfl, qm, qq, qo]
  obtain ⟨ss, hss⟩ : ∃ ss, mSgOf dsa ba = ss := ⟨_, rfl⟩
  have hss2 : ss = (mSg dsa).map (·.name) := by rw [← hss]; unfold mSgOf; rw [hv, if_pos rfl]
  have HSG : Hid (∀ (A : Option Addr) (n c : Nat) (w : World), SD w w.heap.size A n c dsa → n ≤ 1048576 → Calls Try.prog 25 #[.agg #[.slice A n c, .int .i64 ba]] w (StrsP ss w)) := Lib.hid (by rw [← hss]; exact fun A n c w h hn => implSgOf_any dsa ba A n c w h hn)
  have OKS : Hid (∀ s ∈ ss, s.size ≤ maxLen) := Lib.hid (by rw [← hss]; exact mSgOf_ok HOKa.out)
  have HF1 : Hid (mFrom dsa ba ss = (q : Int)) := Lib.hid (by rw [hss2, (from_names hv _ hsub).1, qq])
  have HF2 : Hid (mFromOk dsa ba ss = true) := Lib.hid (by rw [hss2]; exact (from_names hv _ hsub).2)
  have HMK : Hid (mMaskOf dsa ba = (m : Int)) := Lib.hid (by rw [← qm]; exact if_yes hv)
  have HRI : Hid (mRestIn dsa ba (m : Nat) = (o : Int)) := Lib.hid (rest_is (by rw [← qm]; exact v_mask hv) (by rw [qq, qo]))
  clear hv hin hss hss2 hsub hpart qm qq qo h0 HR
  go_wp2_with fail
  go_region_held3 (fun w' => w'.cell? ⟨w1.heap.size, 0, none⟩ = some (.slice Aa dsa.length ca) ∧ w'.cell? ⟨w1.heap.size, 1, none⟩ = some (.int .i64 ba))
    (first | go_keep | exact ⟨ba_4, va_4⟩ | exact ⟨ba_5, va_5⟩ | exact ⟨ba_6, va_6⟩)
    (first
      | (go_at_call 25; refine (HSG.out _ _ _ _ (Sa_4.out.drewN 1) (by omega)).mono ?_; rintro e w5 ⟨As, cs, rfl, ho2, hb⟩; replace hb : Below w4.heap.size w4 w5 := (by first | exact hb | exact undrew hb); have ba_5 := keep1 hb ba_4; have va_5 := keep1 hb va_4; have Sa_5 := Lib.hid ((Sa_4.out.below hb).call hb.size); have HB_5 : Hid (Below w.heap.size w w5) := Lib.hid (HB_4.out.trans (hb.mono HB_4.out.size)); have Ss_5 := Lib.hid (ss_of_own ho2 OKS.out); clear hb)
      | (go_at_call 20; refine (implFrom_v dsa ba ss _ _ _ _ Sa_5.out _ _ _ Ss_5.out (by omega) HF1.out HF2.out).mono ?_; rintro e w6 ⟨rfl, hb⟩; have ba_6 := keep1 hb ba_5; have va_6 := keep1 hb va_5; have Sa_6 := Lib.hid ((Sa_5.out.below hb).call hb.size); have Ss_6 := Lib.hid ((Ss_5.out.below hb).call hb.size); have HB_6 : Hid (Below w.heap.size w w6) := Lib.hid (HB_5.out.trans (hb.mono HB_5.out.size)); clear hb))
  have e3 : ((q : Int) + (o : Int) == (m : Int)) = true := by rw [beq_iff_eq]; omega
  by_cases h1 : o = 0
  · have e1 : ((o : Int) == 0) = true := by rw [beq_iff_eq]; omega
    have e2 : ((q : Int) == (m : Int)) = true := by rw [beq_iff_eq]; omega
    clear h1
    go_wp2_with fail
    refine wp_region_still (by kernel_rfl) (by kernel_rfl) ?_
    go_big_quiet_step (exact fun _ => rfl)
    go_big_quiet_step (exact fun _ => rfl)
    refine BigFrame.wpQuiet_want (by rfl) (fun K hK => ⟨.agg #[.slice Aa dsa.length ca, .int .i64 ba], fun w' hw' => ?_, ?_⟩)
    · have c0 := keep1 hw' ba_6
      have c1 := keep1 hw' va_6
      unfold Oper.quietAt
      go_simp
    go_simp
    refine hK _ ?_
    clear hK K
    refine BigFrame.wpQuiet_want (by rfl) (fun K hK => ⟨.agg #[.slice Aa dsa.length ca, .int .i64 ba], fun w' hw' => ?_, ?_⟩)
    · have c0 := keep1 hw' ba_6
      have c1 := keep1 hw' va_6
      unfold Oper.quietAt
      go_simp
    go_simp
    refine hK _ ?_
    clear hK K
    refine BigFrame.wpQuiet_want (by rfl) (fun K hK => ⟨.int .i64 m, fun w' hw' => ?_, ?_⟩)
    · unfold Oper.quietAt
      go_simp
      exact (implMaskOf_v dsa ba _ _ _ _ ((Sa_6.out.below hw').call hw'.size) (by omega) HMK.out).mono fun e w1 ⟨he, hb⟩ => ⟨he, hw'.trans (hb.mono hw'.size)⟩
    go_simp
    refine hK _ ?_
    clear hK K
    refine BigFrame.wpQuiet_want (by rfl) (fun K hK => ⟨.int .i64 o, fun w' hw' => ?_, ?_⟩)
    · unfold Oper.quietAt
      go_simp
      exact (implRestIn_v dsa ba m _ _ _ _ ((Sa_6.out.below hw').call hw'.size) (by omega) HRI.out).mono fun e w1 ⟨he, hb⟩ => ⟨he, hw'.trans (hb.mono hw'.size)⟩
    go_simp
    refine hK _ ?_
    clear hK K
    go_big_quiet_step (exact fun _ => rfl)
    go_big_quiet_step (exact fun _ => rfl)
    go_big_quiet_step (exact fun _ => rfl)
    go_big_quiet_step (exact fun _ => rfl)
    go_big_quiet_step (exact fun _ => rfl)
    go_big_quiet_step (exact fun _ => rfl)
    go_big_quiet_step (exact fun _ => rfl)
    refine BigFrame.wpQuiet_want (by rfl) (fun K hK => ⟨.agg #[.slice Aa dsa.length ca, .int .i64 ba], fun w' hw' => ?_, ?_⟩)
    · have c0 := keep1 hw' ba_6
      have c1 := keep1 hw' va_6
      unfold Oper.quietAt
      go_simp
    go_simp
    refine hK _ ?_
    clear hK K
    refine BigFrame.wpQuiet_want (by rfl) (fun K hK => ⟨.int .i64 m, fun w' hw' => ?_, ?_⟩)
    · unfold Oper.quietAt
      go_simp
      exact (implMaskOf_v dsa ba _ _ _ _ ((Sa_6.out.below hw').call hw'.size) (by omega) HMK.out).mono fun e w1 ⟨he, hb⟩ => ⟨he, hw'.trans (hb.mono hw'.size)⟩
    go_simp
    refine hK _ ?_
    clear hK K
    go_big_quiet_step (exact fun _ => rfl)
    go_big_quiet_step (exact fun _ => rfl)
    go_big_quiet_step (exact fun _ => rfl)
    go_big_quiet_step (exact fun _ => rfl)
    go_big_quiet_step (exact fun _ => rfl)
    go_big_quiet_step (exact fun _ => rfl)
    go_big_quiet_step (exact fun _ => rfl)
    refine BigFrame.wpQuiet_want (by rfl) (fun K hK => ⟨.agg #[.slice Aa dsa.length ca, .int .i64 ba], fun w' hw' => ?_, ?_⟩)
    · have c0 := keep1 hw' ba_6
      have c1 := keep1 hw' va_6
      unfold Oper.quietAt
      go_simp
    go_simp
    refine hK _ ?_
    clear hK K
    refine BigFrame.wpQuiet_want (by rfl) (fun K hK => ⟨.int .i64 m, fun w' hw' => ?_, ?_⟩)
    · unfold Oper.quietAt
      go_simp
      exact (implMaskOf_v dsa ba _ _ _ _ ((Sa_6.out.below hw').call hw'.size) (by omega) HMK.out).mono fun e w1 ⟨he, hb⟩ => ⟨he, hw'.trans (hb.mono hw'.size)⟩
    go_simp
    refine hK _ ?_
    clear hK K
    go_big_quiet_step (exact fun _ => rfl)
    go_big_quiet_step (exact fun _ => rfl)
    go_big_quiet_step (exact fun _ => rfl)
    refine wpQuiet_nil ?_
    intro w7 hb
    have ba_7 := keep1 hb ba_6
    have va_7 := keep1 hb va_6
    have Sa_7 := Lib.hid ((Sa_6.out.below hb).call hb.size)
    have Ss_7 := Lib.hid ((Ss_6.out.below hb).call hb.size)
    have HB_7 : Hid (Below w.heap.size w w7) := Lib.hid (HB_6.out.trans (hb.mono HB_6.out.size))
    clear hb ba_6 va_6 Sa_6 Ss_6 HB_6
    go_wp2
    go_ret
    exact ⟨rfl, HB_7.out⟩
  · have e1 : ((o : Int) == 0) = false := by rw [beq_eq_false_iff_ne]; omega
    have e2 : ((q : Int) == (m : Int)) = false := by rw [beq_eq_false_iff_ne]; omega
    clear h1
    go_wp2_with fail
    refine wp_region_still (by kernel_rfl) (by kernel_rfl) ?_
    go_big_quiet_step (exact fun _ => rfl)
    go_big_quiet_step (exact fun _ => rfl)
    refine BigFrame.wpQuiet_want (by rfl) (fun K hK => ⟨.agg #[.slice Aa dsa.length ca, .int .i64 ba], fun w' hw' => ?_, ?_⟩)
    · have c0 := keep1 hw' ba_6
      have c1 := keep1 hw' va_6
      unfold Oper.quietAt
      go_simp
    go_simp
    refine hK _ ?_
    clear hK K
    refine BigFrame.wpQuiet_want (by rfl) (fun K hK => ⟨.agg #[.slice Aa dsa.length ca, .int .i64 ba], fun w' hw' => ?_, ?_⟩)
    · have c0 := keep1 hw' ba_6
      have c1 := keep1 hw' va_6
      unfold Oper.quietAt
      go_simp
    go_simp
    refine hK _ ?_
    clear hK K
    refine BigFrame.wpQuiet_want (by rfl) (fun K hK => ⟨.int .i64 m, fun w' hw' => ?_, ?_⟩)
    · unfold Oper.quietAt
      go_simp
      exact (implMaskOf_v dsa ba _ _ _ _ ((Sa_6.out.below hw').call hw'.size) (by omega) HMK.out).mono fun e w1 ⟨he, hb⟩ => ⟨he, hw'.trans (hb.mono hw'.size)⟩
    go_simp
    refine hK _ ?_
    clear hK K
    refine BigFrame.wpQuiet_want (by rfl) (fun K hK => ⟨.int .i64 o, fun w' hw' => ?_, ?_⟩)
    · unfold Oper.quietAt
      go_simp
      exact (implRestIn_v dsa ba m _ _ _ _ ((Sa_6.out.below hw').call hw'.size) (by omega) HRI.out).mono fun e w1 ⟨he, hb⟩ => ⟨he, hw'.trans (hb.mono hw'.size)⟩
    go_simp
    refine hK _ ?_
    clear hK K
    go_big_quiet_step (exact fun _ => rfl)
    go_big_quiet_step (exact fun _ => rfl)
    go_big_quiet_step (exact fun _ => rfl)
    go_big_quiet_step (exact fun _ => rfl)
    go_big_quiet_step (exact fun _ => rfl)
    go_big_quiet_step (exact fun _ => rfl)
    go_big_quiet_step (exact fun _ => rfl)
    refine BigFrame.wpQuiet_want (by rfl) (fun K hK => ⟨.agg #[.slice Aa dsa.length ca, .int .i64 ba], fun w' hw' => ?_, ?_⟩)
    · have c0 := keep1 hw' ba_6
      have c1 := keep1 hw' va_6
      unfold Oper.quietAt
      go_simp
    go_simp
    refine hK _ ?_
    clear hK K
    refine BigFrame.wpQuiet_want (by rfl) (fun K hK => ⟨.int .i64 m, fun w' hw' => ?_, ?_⟩)
    · unfold Oper.quietAt
      go_simp
      exact (implMaskOf_v dsa ba _ _ _ _ ((Sa_6.out.below hw').call hw'.size) (by omega) HMK.out).mono fun e w1 ⟨he, hb⟩ => ⟨he, hw'.trans (hb.mono hw'.size)⟩
    go_simp
    refine hK _ ?_
    clear hK K
    go_big_quiet_step (exact fun _ => rfl)
    go_big_quiet_step (exact fun _ => rfl)
    go_big_quiet_step (exact fun _ => rfl)
    go_big_quiet_step (exact fun _ => rfl)
    go_big_quiet_step (exact fun _ => rfl)
    go_big_quiet_step (exact fun _ => rfl)
    go_big_quiet_step (exact fun _ => rfl)
    refine BigFrame.wpQuiet_want (by rfl) (fun K hK => ⟨.agg #[.slice Aa dsa.length ca, .int .i64 ba], fun w' hw' => ?_, ?_⟩)
    · have c0 := keep1 hw' ba_6
      have c1 := keep1 hw' va_6
      unfold Oper.quietAt
      go_simp
    go_simp
    refine hK _ ?_
    clear hK K
    refine BigFrame.wpQuiet_want (by rfl) (fun K hK => ⟨.int .i64 m, fun w' hw' => ?_, ?_⟩)
    · unfold Oper.quietAt
      go_simp
      exact (implMaskOf_v dsa ba _ _ _ _ ((Sa_6.out.below hw').call hw'.size) (by omega) HMK.out).mono fun e w1 ⟨he, hb⟩ => ⟨he, hw'.trans (hb.mono hw'.size)⟩
    go_simp
    refine hK _ ?_
    clear hK K
    go_big_quiet_step (exact fun _ => rfl)
    go_big_quiet_step (exact fun _ => rfl)
    go_big_quiet_step (exact fun _ => rfl)
    refine wpQuiet_nil ?_
    intro w7 hb
    have ba_7 := keep1 hb ba_6
    have va_7 := keep1 hb va_6
    have Sa_7 := Lib.hid ((Sa_6.out.below hb).call hb.size)
    have Ss_7 := Lib.hid ((Ss_6.out.below hb).call hb.size)
    have HB_7 : Hid (Below w.heap.size w w7) := Lib.hid (HB_6.out.trans (hb.mono HB_6.out.size))
    clear hb ba_6 va_6 Sa_6 Ss_6 HB_6
    go_wp2
    go_ret
    exact ⟨rfl, HB_7.out⟩

theorem lifted (os : Os) (started : os.Started) (H : Type) (enc : TypeId × Value → H) :
    ReturnsInHanded {} Try.checked os 4 .any (Rows.fnLooseBitsSpec.pre6 enc Try.prog Try.f4 Rows.fnLooseBitsRow.domain false) (Rows.fnLooseBitsSpec.post enc Try.prog Try.f4 false true false false) := by
  refine returnsInHanded_of_change (C := Try.checked) own started (by kernel_rfl) Try.func4
    (ChangeSpec.witness6 (enc := enc) (C := Try.checked) false ⟨#[], #[.slice none 0 0], []⟩ 8 (by kernel_rfl) (by kernel_rfl) (by kernel_rfl) (by kernel_rfl)) ?_
  intro W base args ds gs before hval0 hW hcnd _
  have hval : ∀ (j : Nat) t v, Try.f4.params[j]? = some t → args[j]? = some v → Value.okWide Try.prog W .any base t v := hval0
  have hW' := hW
  obtain ⟨p, q, hA0, hV, rfl, hfz, hnd⟩ := hW
  have hA : DataW.TrodAll enc Try.prog W 0 (fun _ => true) true Try.f4.params.toList args.toList ds p := hA0
  rw [Try.params4] at hA hval
  obtain ⟨v0, vs0, d0, ds0, p0, q0, hargs, rfl, rfl, h0, r0⟩ := trodAll_cons hA
  obtain ⟨rfl, rfl, rfl⟩ := trodAll_nil r0
  obtain rfl : args = #[v0] := by cases args; simp_all
  obtain ⟨rfl, rfl⟩ := trodVars_none hV
  have k0 := h0
  have lt0 : ∀ x ∈ p0, x.block < W.heap.size := by obtain ⟨m, hm⟩ := k0; exact DataW.trod_lt m _ _ _ hm
  obtain ⟨A0, n0, c0, l0, rfl, w0⟩ := open_code (hval 0 22 v0 rfl rfl) h0
  clear hA0 hval0
  refine (walk A0 n0 c0 l0 W w0).mono fun e W' ⟨he, bel⟩ => ?_
  subst he
  exact ⟨_, rfl, _, _, _, [], _, [], hW', trodAll_mk1 (shut_bool Try.underlying4 _), (trodAll_cons_mk (Below.trod laidOut (by kernel_rfl) (of_decide_eq_true (by kernel_rfl)) k0 bel lt0) trodAll_mk0), rfl, bel.frame _, fun h => by cases h⟩

theorem over : Rows.fnLooseBitsRow.holds Try.pinned (OpenSpec.ofChange Rows.fnLooseBitsSpec) :=
  OpenClaim.holds_of_wide 4 Try.f4 rfl rfl rfl rfl rfl rfl rfl ⟨rfl, rfl, rfl, rfl, rfl⟩ rfl rfl rfl rfl rfl (by kernel_rfl) Try.func4 (by kernel_rfl)
    (of_decide_eq_true (by kernel_rfl)) (by unfold Func.isWrapper; first | (rw [if_pos (by decide +kernel)]; kernel_rfl) | (rw [if_neg (by decide +kernel)]; exact ⟨rfl, rfl⟩))
    (fun os started H enc _ => lifted os started H enc)

theorem proved : Rows.FnLooseBitsSaid := over
end Go.Proofs.Ytnaojafidhloeaa.fnLooseBits
