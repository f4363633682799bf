/-
For every code the law of or and and that turn round returns true.
Conditions: none.
-/
import Derived.Test.YtnaojafidhloeaaGenV
import Derived.Test.YtnaojafidhloeaaOpenC
import Derived.Test.YtnaojafidhloeaaLFlag
import Derived.Test.YtnaojafidhloeaaLAlg
import Derived.Test.YtnaojafidhloeaaAlgS
import Derived.Test.YtnaojafidhloeaaAlgI
namespace Go.Proofs.Ytnaojafidhloeaa.fnInvertValueTwo
open Go.ChangeShapes Go.WideShapes Go.ChangeAt Go.RowKit
open Go.ChangeMaps (open_string shut_string)
set_option linter.unusedVariables false
set_option maxRecDepth 100000

set_option maxHeartbeats 16000000 in
theorem walk (A : Option Addr) (n c : Nat) (zs : List Int) (w : World) (h : SB w w.heap.size A n c zs) :
    Calls Try.prog 13 #[.slice A n c] w fun e w' => e = .returned (.bool true) ∧ Below w.heap.size w w' := by
  have hm := h.max
  have hcap := h.cap
  unfold maxLen at hm
  have HS0 := Lib.hid h
  clear h
  by_cases hbig : 1048576 < (n : Int)
  · go_enter Try.func13, Try.ntmps13
    go_wp2
    go_ret
    exact ⟨rfl, Below.refl _ _⟩
  go_enter Try.func13, Try.ntmps13
  go_wp2_with fail
  refine (drawOrValues_any A n c zs _ HS0.out).mono ?_
  rintro e w1 ⟨Aa, ca, dsa, ba, xa, xb, rfl, hna, hsma, hbda, hxa, hxb, hsa, hb⟩
  have HB_1 := Lib.hid hb
  have Sa_1 := Lib.hid hsa
  have HSMa := Lib.hid hsma
  have HOKa : Hid (∀ d ∈ dsa, d.ok) := Lib.hid (fun d hd => small_ok (hsma d hd))
  have HBDa := Lib.hid hbda
  clear hb hsa hsma hbda
  obtain ⟨w2, hw⟩ : ∃ W : World, W = (w1.alloc (.cells #[.slice Aa dsa.length ca, .int .i64 ba] 25)) := ⟨_, rfl⟩
  have hb : Below w1.heap.size w1 w2 := by rw [hw]; exact ((Below.refl _ _).alloc (by first | exact Nat.le_refl _ | (simp; done) | (simp; omega)) _)
  have Sa_2 := Lib.hid ((Sa_1.out.below hb).call hb.size)
  have HB_2 : Hid (Below w.heap.size w w2) := Lib.hid (HB_1.out.trans (hb.mono HB_1.out.size))
  have ba_2 : w2.cell? ⟨w1.heap.size, 0, none⟩ = some (.slice Aa dsa.length ca) := by rw [hw]; simp [go_sem]
  have va_2 : w2.cell? ⟨w1.heap.size, 1, none⟩ = some (.int .i64 ba) := by rw [hw]; simp [go_sem]
  have lf_ba : (w1.alloc (.cells #[.slice Aa dsa.length ca, .int .i64 ba] 25)).cell? ⟨w1.heap.size, 0, none⟩ = some (.slice Aa dsa.length ca) := by rw [← hw]; exact ba_2
  have lf_va : (w1.alloc (.cells #[.slice Aa dsa.length ca, .int .i64 ba] 25)).cell? ⟨w1.heap.size, 1, none⟩ = some (.int .i64 ba) := by rw [← hw]; exact va_2
  have HW2 : Hid ((w1.alloc (.cells #[.slice Aa dsa.length ca, .int .i64 ba] 25)) = w2) := Lib.hid hw.symm
  clear hb hw Sa_1 HB_1
  obtain ⟨r, hr⟩ : ∃ r, mOp orN dsa ba xa xb = r := ⟨_, rfl⟩
  have HR := Lib.hid hr
  clear hr
  go_wp2_with fail
  rw [HW2.out]
  clear lf_ba lf_va
  refine (implOr_v dsa ba xa xb _ _ _ _ Sa_2.out (by omega) HR.out).mono ?_
  rintro e w3 ⟨rfl, hb⟩
  have ba_3 := keep1 hb ba_2
  have va_3 := keep1 hb va_2
  have Sa_3 := Lib.hid ((Sa_2.out.below hb).call hb.size)
  have HB_3 : Hid (Below w.heap.size w w3) := Lib.hid (HB_2.out.trans (hb.mono HB_2.out.size))
  clear hb  ba_2 va_2 Sa_2 HB_2
  go_wp2_with fail
  refine (specOr_v dsa ba xa xb _ _ _ _ Sa_3.out HR.out).mono ?_
  rintro e w4 ⟨rfl, hb⟩
  have ba_4 := keep1 hb ba_3
  have va_4 := keep1 hb va_3
  have Sa_4 := Lib.hid ((Sa_3.out.below hb).call hb.size)
  have HB_4 : Hid (Below w.heap.size w w4) := Lib.hid (HB_3.out.trans (hb.mono HB_3.out.size))
  clear hb  ba_3 va_3 Sa_3 HB_3
  by_cases h0 : r < 0
  · skip
    go_wp2_with fail
    refine (specOr_v dsa ba xa xb _ _ _ _ Sa_4.out HR.out).mono ?_
    rintro e w5 ⟨rfl, hb⟩
    have ba_5 := keep1 hb ba_4
    have va_5 := keep1 hb va_4
    have Sa_5 := Lib.hid ((Sa_4.out.below hb).call hb.size)
    have HB_5 : Hid (Below w.heap.size w w5) := Lib.hid (HB_4.out.trans (hb.mono HB_4.out.size))
    clear hb  ba_4 va_4 Sa_4 HB_4
    go_wp2
    go_ret
    exact ⟨rfl, HB_5.out⟩
  have ht := op_two (by rw [HR.out]; exact h0)
  obtain ⟨p, rfl, hp⟩ := mIsV_nat (mTwo_1 ht)
  obtain ⟨q, rfl, hq⟩ := mIsV_nat (mTwo_2 ht)
  have HVp := Lib.hid (mTwo_1 ht)
  have HVq := Lib.hid (mTwo_2 ht)
  obtain ⟨o, qo⟩ : ∃ o, p ||| q = o := ⟨_, rfl⟩
  have ho : o < 4096 := by rw [← qo]; exact or_lt hp hq
  have HVo : Hid (mIsV dsa ba (o : Nat) = true) := Lib.hid (by rw [← qo]; exact v_or HVp.out HVq.out)
  obtain rfl : r = (o : Int) := by rw [← HR.out]; exact op_is HVp.out HVq.out qo
  clear ht h0 hxa hxb
  have HFL := Lib.hid (mIsV_flag HVp.out)
  obtain ⟨wh, qw⟩ : ∃ wh, mWhole dsa ba = wh := ⟨_, rfl⟩
  have hwh : wh < 4096 := by rw [← qw]; exact mWhole_lt (vFlag_in HFL.out)
  obtain ⟨s, qs⟩ : ∃ s, nl wh o = s := ⟨_, rfl⟩
  have HVs : Hid (mIsV dsa ba (s : Nat) = true) := Lib.hid (by rw [← qs, ← qw]; exact v_inv HFL.out)
  have hs : s < 4096 := by rw [← qs]; exact nl_lt hwh
  have H1 : Hid (mInv dsa ba (o : Nat) = (s : Int)) := Lib.hid (inv_is HVo.out (by rw [qw]; exact qs))
  obtain ⟨i, qi⟩ : ∃ i, nl wh p = i := ⟨_, rfl⟩
  have HVi : Hid (mIsV dsa ba (i : Nat) = true) := Lib.hid (by rw [← qi, ← qw]; exact v_inv HFL.out)
  have hi : i < 4096 := by rw [← qi]; exact nl_lt hwh
  have H2 : Hid (mInv dsa ba (p : Nat) = (i : Int)) := Lib.hid (inv_is HVp.out (by rw [qw]; exact qi))
  obtain ⟨j, qj⟩ : ∃ j, nl wh q = j := ⟨_, rfl⟩
  have HVj : Hid (mIsV dsa ba (j : Nat) = true) := Lib.hid (by rw [← qj, ← qw]; exact v_inv HFL.out)
  have hj : j < 4096 := by rw [← qj]; exact nl_lt hwh
  have H3 : Hid (mInv dsa ba (q : Nat) = (j : Int)) := Lib.hid (inv_is HVq.out (by rw [qw]; exact qj))
  have H4 : Hid (mOp andN dsa ba (i : Nat) (j : Nat) = (s : Int)) := Lib.hid (op_is HVi.out HVj.out (by rw [← qi, ← qj, ← qs, ← qo]; exact (bi3 _ _ _).symm))
  obtain ⟨u, qu⟩ : ∃ u, p &&& q = u := ⟨_, rfl⟩
  have hu : u < 4096 := by rw [← qu]; exact and_lt hp
  have HVu : Hid (mIsV dsa ba (u : Nat) = true) := Lib.hid (by rw [← qu]; exact v_and HVp.out HVq.out)
  have H5 : Hid (mOp andN dsa ba (p : Nat) (q : Nat) = (u : Int)) := Lib.hid (op_is HVp.out HVq.out (by exact qu))
  obtain ⟨t, qt⟩ : ∃ t, nl wh u = t := ⟨_, rfl⟩
  have HVt : Hid (mIsV dsa ba (t : Nat) = true) := Lib.hid (by rw [← qt, ← qw]; exact v_inv HFL.out)
  have ht : t < 4096 := by rw [← qt]; exact nl_lt hwh
  have H6 : Hid (mInv dsa ba (u : Nat) = (t : Int)) := Lib.hid (inv_is HVu.out (by rw [qw]; exact qt))
  have H7 : Hid (mOp orN dsa ba (i : Nat) (j : Nat) = (t : Int)) := Lib.hid (op_is HVi.out HVj.out (by rw [← qi, ← qj, ← qt, ← qu]; exact (bi4 _ _ _).symm))
  clear qo qw qs qi qj qu qt
  go_wp2_with fail
  refine wp_region_still (by kernel_rfl) (by kernel_rfl) ?_
  refine BigFrame.wpQuiet_want (by rfl) (fun K hK => ⟨.agg #[.slice Aa dsa.length ca, .int .i64 ba], fun w' hw' => ?_, ?_⟩)
  · have c0 := keep1 hw' ba_4
    have c1 := keep1 hw' va_4
    unfold Oper.quietAt
    go_simp
  go_simp
  refine hK _ ?_
  clear hK K
  go_big_quiet_step (exact fun _ => rfl)
  refine BigFrame.wpQuiet_want (by rfl) (fun K hK => ⟨.int .i64 s, fun w' hw' => ?_, ?_⟩)
  · unfold Oper.quietAt
    go_simp
    exact (implInv_v dsa ba o _ _ _ _ ((Sa_4.out.below hw').call hw'.size) (by omega) H1.out).mono fun e w1 ⟨he, hb⟩ => ⟨he, hw'.trans (hb.mono hw'.size)⟩
  go_simp
  refine hK _ ?_
  clear hK K
  refine BigFrame.wpQuiet_want (by rfl) (fun K hK => ⟨.agg #[.slice Aa dsa.length ca, .int .i64 ba], fun w' hw' => ?_, ?_⟩)
  · have c0 := keep1 hw' ba_4
    have c1 := keep1 hw' va_4
    unfold Oper.quietAt
    go_simp
  go_simp
  refine hK _ ?_
  clear hK K
  refine BigFrame.wpQuiet_want (by rfl) (fun K hK => ⟨.agg #[.slice Aa dsa.length ca, .int .i64 ba], fun w' hw' => ?_, ?_⟩)
  · have c0 := keep1 hw' ba_4
    have c1 := keep1 hw' va_4
    unfold Oper.quietAt
    go_simp
  go_simp
  refine hK _ ?_
  clear hK K
  go_big_quiet_step (exact fun _ => rfl)
  refine BigFrame.wpQuiet_want (by rfl) (fun K hK => ⟨.int .i64 i, fun w' hw' => ?_, ?_⟩)
  · unfold Oper.quietAt
    go_simp
    exact (implInv_v dsa ba p _ _ _ _ ((Sa_4.out.below hw').call hw'.size) (by omega) H2.out).mono fun e w1 ⟨he, hb⟩ => ⟨he, hw'.trans (hb.mono hw'.size)⟩
  go_simp
  refine hK _ ?_
  clear hK K
  refine BigFrame.wpQuiet_want (by rfl) (fun K hK => ⟨.agg #[.slice Aa dsa.length ca, .int .i64 ba], fun w' hw' => ?_, ?_⟩)
  · have c0 := keep1 hw' ba_4
    have c1 := keep1 hw' va_4
    unfold Oper.quietAt
    go_simp
  go_simp
  refine hK _ ?_
  clear hK K
  go_big_quiet_step (exact fun _ => rfl)
  refine BigFrame.wpQuiet_want (by rfl) (fun K hK => ⟨.int .i64 j, fun w' hw' => ?_, ?_⟩)
  · unfold Oper.quietAt
    go_simp
    exact (implInv_v dsa ba q _ _ _ _ ((Sa_4.out.below hw').call hw'.size) (by omega) H3.out).mono fun e w1 ⟨he, hb⟩ => ⟨he, hw'.trans (hb.mono hw'.size)⟩
  go_simp
  refine hK _ ?_
  clear hK K
  refine BigFrame.wpQuiet_want (by rfl) (fun K hK => ⟨.int .i64 s, fun w' hw' => ?_, ?_⟩)
  · unfold Oper.quietAt
    go_simp
    exact (implAnd_v dsa ba i j _ _ _ _ ((Sa_4.out.below hw').call hw'.size) (by omega) H4.out).mono fun e w1 ⟨he, hb⟩ => ⟨he, hw'.trans (hb.mono hw'.size)⟩
  go_simp
  refine hK _ ?_
  clear hK K
  go_big_quiet_step (exact fun _ => rfl)
  go_big_quiet_step (exact fun _ => rfl)
  refine BigFrame.wpQuiet_want (by rfl) (fun K hK => ⟨.agg #[.slice Aa dsa.length ca, .int .i64 ba], fun w' hw' => ?_, ?_⟩)
  · have c0 := keep1 hw' ba_4
    have c1 := keep1 hw' va_4
    unfold Oper.quietAt
    go_simp
  go_simp
  refine hK _ ?_
  clear hK K
  refine BigFrame.wpQuiet_want (by rfl) (fun K hK => ⟨.agg #[.slice Aa dsa.length ca, .int .i64 ba], fun w' hw' => ?_, ?_⟩)
  · have c0 := keep1 hw' ba_4
    have c1 := keep1 hw' va_4
    unfold Oper.quietAt
    go_simp
  go_simp
  refine hK _ ?_
  clear hK K
  go_big_quiet_step (exact fun _ => rfl)
  go_big_quiet_step (exact fun _ => rfl)
  refine BigFrame.wpQuiet_want (by rfl) (fun K hK => ⟨.int .i64 u, fun w' hw' => ?_, ?_⟩)
  · unfold Oper.quietAt
    go_simp
    exact (implAnd_v dsa ba p q _ _ _ _ ((Sa_4.out.below hw').call hw'.size) (by omega) H5.out).mono fun e w1 ⟨he, hb⟩ => ⟨he, hw'.trans (hb.mono hw'.size)⟩
  go_simp
  refine hK _ ?_
  clear hK K
  refine BigFrame.wpQuiet_want (by rfl) (fun K hK => ⟨.int .i64 t, fun w' hw' => ?_, ?_⟩)
  · unfold Oper.quietAt
    go_simp
    exact (implInv_v dsa ba u _ _ _ _ ((Sa_4.out.below hw').call hw'.size) (by omega) H6.out).mono fun e w1 ⟨he, hb⟩ => ⟨he, hw'.trans (hb.mono hw'.size)⟩
  go_simp
  refine hK _ ?_
  clear hK K
  refine BigFrame.wpQuiet_want (by rfl) (fun K hK => ⟨.agg #[.slice Aa dsa.length ca, .int .i64 ba], fun w' hw' => ?_, ?_⟩)
  · have c0 := keep1 hw' ba_4
    have c1 := keep1 hw' va_4
    unfold Oper.quietAt
    go_simp
  go_simp
  refine hK _ ?_
  clear hK K
  refine BigFrame.wpQuiet_want (by rfl) (fun K hK => ⟨.agg #[.slice Aa dsa.length ca, .int .i64 ba], fun w' hw' => ?_, ?_⟩)
  · have c0 := keep1 hw' ba_4
    have c1 := keep1 hw' va_4
    unfold Oper.quietAt
    go_simp
  go_simp
  refine hK _ ?_
  clear hK K
  go_big_quiet_step (exact fun _ => rfl)
  refine BigFrame.wpQuiet_want (by rfl) (fun K hK => ⟨.int .i64 i, fun w' hw' => ?_, ?_⟩)
  · unfold Oper.quietAt
    go_simp
    exact (implInv_v dsa ba p _ _ _ _ ((Sa_4.out.below hw').call hw'.size) (by omega) H2.out).mono fun e w1 ⟨he, hb⟩ => ⟨he, hw'.trans (hb.mono hw'.size)⟩
  go_simp
  refine hK _ ?_
  clear hK K
  refine BigFrame.wpQuiet_want (by rfl) (fun K hK => ⟨.agg #[.slice Aa dsa.length ca, .int .i64 ba], fun w' hw' => ?_, ?_⟩)
  · have c0 := keep1 hw' ba_4
    have c1 := keep1 hw' va_4
    unfold Oper.quietAt
    go_simp
  go_simp
  refine hK _ ?_
  clear hK K
  go_big_quiet_step (exact fun _ => rfl)
  refine BigFrame.wpQuiet_want (by rfl) (fun K hK => ⟨.int .i64 j, fun w' hw' => ?_, ?_⟩)
  · unfold Oper.quietAt
    go_simp
    exact (implInv_v dsa ba q _ _ _ _ ((Sa_4.out.below hw').call hw'.size) (by omega) H3.out).mono fun e w1 ⟨he, hb⟩ => ⟨he, hw'.trans (hb.mono hw'.size)⟩
  go_simp
  refine hK _ ?_
  clear hK K
  refine BigFrame.wpQuiet_want (by rfl) (fun K hK => ⟨.int .i64 t, fun w' hw' => ?_, ?_⟩)
  · unfold Oper.quietAt
    go_simp
    exact (implOr_v dsa ba i j _ _ _ _ ((Sa_4.out.below hw').call hw'.size) (by omega) H7.out).mono fun e w1 ⟨he, hb⟩ => ⟨he, hw'.trans (hb.mono hw'.size)⟩
  go_simp
  refine hK _ ?_
  clear hK K
  go_big_quiet_step (exact fun _ => rfl)
  go_big_quiet_step (exact fun _ => rfl)
  go_big_quiet_step (exact fun _ => rfl)
  refine wpQuiet_nil ?_
  intro w5 hb
  have ba_5 := keep1 hb ba_4
  have va_5 := keep1 hb va_4
  have Sa_5 := Lib.hid ((Sa_4.out.below hb).call hb.size)
  have HB_5 : Hid (Below w.heap.size w w5) := Lib.hid (HB_4.out.trans (hb.mono HB_4.out.size))
  clear hb ba_4 va_4 Sa_4 HB_4
  go_wp2
  go_ret
  exact ⟨rfl, HB_5.out⟩

theorem lifted (os : Os) (started : os.Started) (H : Type) (enc : TypeId × Value → H) :
    ReturnsInHanded {} Try.checked os 13 .any (Rows.fnInvertValueTwoSpec.pre6 enc Try.prog Try.f13 Rows.fnInvertValueTwoRow.domain false) (Rows.fnInvertValueTwoSpec.post enc Try.prog Try.f13 false true false false) := by
  refine returnsInHanded_of_change (C := Try.checked) own started (by kernel_rfl) Try.func13
    (ChangeSpec.witness6 (enc := enc) (C := Try.checked) false ⟨#[], #[.slice none 0 0], []⟩ 8 (by kernel_rfl) (by kernel_rfl) (by kernel_rfl) (by kernel_rfl)) ?_
  intro W base args ds gs before hval0 hW hcnd _
  have hval : ∀ (j : Nat) t v, Try.f13.params[j]? = some t → args[j]? = some v → Value.okWide Try.prog W .any base t v := hval0
  have hW' := hW
  obtain ⟨p, q, hA0, hV, rfl, hfz, hnd⟩ := hW
  have hA : DataW.TrodAll enc Try.prog W 0 (fun _ => true) true Try.f13.params.toList args.toList ds p := hA0
  rw [Try.params13] at hA hval
  obtain ⟨v0, vs0, d0, ds0, p0, q0, hargs, rfl, rfl, h0, r0⟩ := trodAll_cons hA
  obtain ⟨rfl, rfl, rfl⟩ := trodAll_nil r0
  obtain rfl : args = #[v0] := by cases args; simp_all
  obtain ⟨rfl, rfl⟩ := trodVars_none hV
  have k0 := h0
  have lt0 : ∀ x ∈ p0, x.block < W.heap.size := by obtain ⟨m, hm⟩ := k0; exact DataW.trod_lt m _ _ _ hm
  obtain ⟨A0, n0, c0, l0, rfl, w0⟩ := open_code (hval 0 22 v0 rfl rfl) h0
  clear hA0 hval0
  refine (walk A0 n0 c0 l0 W w0).mono fun e W' ⟨he, bel⟩ => ?_
  subst he
  exact ⟨_, rfl, _, _, _, [], _, [], hW', trodAll_mk1 (shut_bool Try.underlying4 _), (trodAll_cons_mk (Below.trod laidOut (by kernel_rfl) (of_decide_eq_true (by kernel_rfl)) k0 bel lt0) trodAll_mk0), rfl, bel.frame _, fun h => by cases h⟩

theorem over : Rows.fnInvertValueTwoRow.holds Try.pinned (OpenSpec.ofChange Rows.fnInvertValueTwoSpec) :=
  OpenClaim.holds_of_wide 13 Try.f13 rfl rfl rfl rfl rfl rfl rfl ⟨rfl, rfl, rfl, rfl, rfl⟩ rfl rfl rfl rfl rfl (by kernel_rfl) Try.func13 (by kernel_rfl)
    (of_decide_eq_true (by kernel_rfl)) (by unfold Func.isWrapper; first | (rw [if_pos (by decide +kernel)]; kernel_rfl) | (rw [if_neg (by decide +kernel)]; exact ⟨rfl, rfl⟩))
    (fun os started H enc _ => lifted os started H enc)

theorem proved : Rows.FnInvertValueTwoSaid := over
end Go.Proofs.Ytnaojafidhloeaa.fnInvertValueTwo
