/-
For every code the law of what is taken away and gone returns true.
Conditions: none.
-/
import Derived.Test.YtnaojafidhloeaaGenV
import Derived.Test.YtnaojafidhloeaaOpenC
import Derived.Test.YtnaojafidhloeaaLFlag
import Derived.Test.YtnaojafidhloeaaLAlg
import Derived.Test.YtnaojafidhloeaaAlgS
import Derived.Test.YtnaojafidhloeaaAlgI
namespace Go.Proofs.Ytnaojafidhloeaa.fnLessValues
open Go.ChangeShapes Go.WideShapes Go.ChangeAt Go.RowKit
open Go.ChangeMaps (open_string shut_string)
set_option linter.unusedVariables false
set_option maxRecDepth 100000

set_option maxHeartbeats 16000000 in
theorem walk (A : Option Addr) (n c : Nat) (zs : List Int) (w : World) (h : SB w w.heap.size A n c zs) :
    Calls Try.prog 11 #[.slice A n c] w fun e w' => e = .returned (.bool true) ∧ Below w.heap.size w w' := by
  have hm := h.max
  have hcap := h.cap
  unfold maxLen at hm
  have HS0 := Lib.hid h
  clear h
  by_cases hbig : 1048576 < (n : Int)
  · go_enter Try.func11, Try.ntmps11
    go_wp2
    go_ret
    exact ⟨rfl, Below.refl _ _⟩
  go_enter Try.func11, Try.ntmps11
  go_wp2_with fail
  refine (drawLessValues_any A n c zs _ HS0.out).mono ?_
  rintro e w1 ⟨Aa, ca, dsa, ba, xa, xb, rfl, hna, hsma, hbda, hxa, hxb, hsa, hb⟩
  have HB_1 := Lib.hid hb
  have Sa_1 := Lib.hid hsa
  have HSMa := Lib.hid hsma
  have HOKa : Hid (∀ d ∈ dsa, d.ok) := Lib.hid (fun d hd => small_ok (hsma d hd))
  have HBDa := Lib.hid hbda
  clear hb hsa hsma hbda
  obtain ⟨w2, hw⟩ : ∃ W : World, W = (w1.alloc (.cells #[.slice Aa dsa.length ca, .int .i64 ba] 25)) := ⟨_, rfl⟩
  have hb : Below w1.heap.size w1 w2 := by rw [hw]; exact ((Below.refl _ _).alloc (by first | exact Nat.le_refl _ | (simp; done) | (simp; omega)) _)
  have Sa_2 := Lib.hid ((Sa_1.out.below hb).call hb.size)
  have HB_2 : Hid (Below w.heap.size w w2) := Lib.hid (HB_1.out.trans (hb.mono HB_1.out.size))
  have ba_2 : w2.cell? ⟨w1.heap.size, 0, none⟩ = some (.slice Aa dsa.length ca) := by rw [hw]; simp [go_sem]
  have va_2 : w2.cell? ⟨w1.heap.size, 1, none⟩ = some (.int .i64 ba) := by rw [hw]; simp [go_sem]
  have lf_ba : (w1.alloc (.cells #[.slice Aa dsa.length ca, .int .i64 ba] 25)).cell? ⟨w1.heap.size, 0, none⟩ = some (.slice Aa dsa.length ca) := by rw [← hw]; exact ba_2
  have lf_va : (w1.alloc (.cells #[.slice Aa dsa.length ca, .int .i64 ba] 25)).cell? ⟨w1.heap.size, 1, none⟩ = some (.int .i64 ba) := by rw [← hw]; exact va_2
  have HW2 : Hid ((w1.alloc (.cells #[.slice Aa dsa.length ca, .int .i64 ba] 25)) = w2) := Lib.hid hw.symm
  clear hb hw Sa_1 HB_1
  obtain ⟨r, hr⟩ : ∃ r, mOp nl dsa ba xa xb = r := ⟨_, rfl⟩
  have HR := Lib.hid hr
  clear hr
  go_wp2_with fail
  rw [HW2.out]
  clear lf_ba lf_va
  refine (implLess_v dsa ba xa xb _ _ _ _ Sa_2.out (by omega) HR.out).mono ?_
  rintro e w3 ⟨rfl, hb⟩
  have ba_3 := keep1 hb ba_2
  have va_3 := keep1 hb va_2
  have Sa_3 := Lib.hid ((Sa_2.out.below hb).call hb.size)
  have HB_3 : Hid (Below w.heap.size w w3) := Lib.hid (HB_2.out.trans (hb.mono HB_2.out.size))
  clear hb  ba_2 va_2 Sa_2 HB_2
  go_wp2_with fail
  refine (specLess_v dsa ba xa xb _ _ _ _ Sa_3.out HR.out).mono ?_
  rintro e w4 ⟨rfl, hb⟩
  have ba_4 := keep1 hb ba_3
  have va_4 := keep1 hb va_3
  have Sa_4 := Lib.hid ((Sa_3.out.below hb).call hb.size)
  have HB_4 : Hid (Below w.heap.size w w4) := Lib.hid (HB_3.out.trans (hb.mono HB_3.out.size))
  clear hb  ba_3 va_3 Sa_3 HB_3
  by_cases h0 : r < 0
  · skip
    go_wp2_with fail
    refine (specLess_v dsa ba xa xb _ _ _ _ Sa_4.out HR.out).mono ?_
    rintro e w5 ⟨rfl, hb⟩
    have ba_5 := keep1 hb ba_4
    have va_5 := keep1 hb va_4
    have Sa_5 := Lib.hid ((Sa_4.out.below hb).call hb.size)
    have HB_5 : Hid (Below w.heap.size w w5) := Lib.hid (HB_4.out.trans (hb.mono HB_4.out.size))
    clear hb  ba_4 va_4 Sa_4 HB_4
    go_wp2
    go_ret
    exact ⟨rfl, HB_5.out⟩
  have ht := op_two (by rw [HR.out]; exact h0)
  obtain ⟨p, rfl, hp⟩ := mIsV_nat (mTwo_1 ht)
  obtain ⟨q, rfl, hq⟩ := mIsV_nat (mTwo_2 ht)
  have HVp := Lib.hid (mTwo_1 ht)
  have HVq := Lib.hid (mTwo_2 ht)
  obtain ⟨o, qo⟩ : ∃ o, nl p q = o := ⟨_, rfl⟩
  have ho : o < 4096 := by rw [← qo]; exact nl_lt hp
  have HVo : Hid (mIsV dsa ba (o : Nat) = true) := Lib.hid (by rw [← qo]; exact v_nl HVp.out (q := q))
  obtain rfl : r = (o : Int) := by rw [← HR.out]; exact op_is HVp.out HVq.out qo
  clear ht h0 hxa hxb
  obtain ⟨i, qi⟩ : ∃ i, p &&& q = i := ⟨_, rfl⟩
  have hi : i < 4096 := by rw [← qi]; exact and_lt hp
  have HVi : Hid (mIsV dsa ba (i : Nat) = true) := Lib.hid (by rw [← qi]; exact v_and HVp.out HVq.out)
  have H1 : Hid (mOp andN dsa ba (o : Nat) (q : Nat) = 0) := Lib.hid (op_is (r := 0) HVo.out HVq.out (by rw [← qo]; exact bl1 _ _))
  have H2 : Hid (mOp andN dsa ba (p : Nat) (q : Nat) = (i : Int)) := Lib.hid (op_is HVp.out HVq.out (by exact qi))
  have H3 : Hid (mOp orN dsa ba (o : Nat) (i : Nat) = (p : Int)) := Lib.hid (op_is HVo.out HVi.out (by rw [← qo, ← qi]; exact bl2 _ _))
  have H4 : Hid (mHas dsa ba (p : Nat) (o : Nat) = true) := Lib.hid (has_is HVp.out HVo.out (decide_eq_true (by rw [← qo]; exact bl3 _ _)))
  clear qo qi
  go_wp2_with fail
  refine wp_region_still (by kernel_rfl) (by kernel_rfl) ?_
  refine BigFrame.wpQuiet_want (by rfl) (fun K hK => ⟨.agg #[.slice Aa dsa.length ca, .int .i64 ba], fun w' hw' => ?_, ?_⟩)
  · have c0 := keep1 hw' ba_4
    have c1 := keep1 hw' va_4
    unfold Oper.quietAt
    go_simp
  go_simp
  refine hK _ ?_
  clear hK K
  go_big_quiet_step (exact fun _ => rfl)
  go_big_quiet_step (exact fun _ => rfl)
  refine BigFrame.wpQuiet_want (by rfl) (fun K hK => ⟨.int .i64 0, fun w' hw' => ?_, ?_⟩)
  · unfold Oper.quietAt
    go_simp
    exact (implAnd_v dsa ba o q _ _ _ _ ((Sa_4.out.below hw').call hw'.size) (by omega) H1.out).mono fun e w1 ⟨he, hb⟩ => ⟨he, hw'.trans (hb.mono hw'.size)⟩
  go_simp
  refine hK _ ?_
  clear hK K
  go_big_quiet_step (exact fun _ => rfl)
  go_big_quiet_step (exact fun _ => rfl)
  refine BigFrame.wpQuiet_want (by rfl) (fun K hK => ⟨.agg #[.slice Aa dsa.length ca, .int .i64 ba], fun w' hw' => ?_, ?_⟩)
  · have c0 := keep1 hw' ba_4
    have c1 := keep1 hw' va_4
    unfold Oper.quietAt
    go_simp
  go_simp
  refine hK _ ?_
  clear hK K
  go_big_quiet_step (exact fun _ => rfl)
  refine BigFrame.wpQuiet_want (by rfl) (fun K hK => ⟨.agg #[.slice Aa dsa.length ca, .int .i64 ba], fun w' hw' => ?_, ?_⟩)
  · have c0 := keep1 hw' ba_4
    have c1 := keep1 hw' va_4
    unfold Oper.quietAt
    go_simp
  go_simp
  refine hK _ ?_
  clear hK K
  go_big_quiet_step (exact fun _ => rfl)
  go_big_quiet_step (exact fun _ => rfl)
  refine BigFrame.wpQuiet_want (by rfl) (fun K hK => ⟨.int .i64 i, fun w' hw' => ?_, ?_⟩)
  · unfold Oper.quietAt
    go_simp
    exact (implAnd_v dsa ba p q _ _ _ _ ((Sa_4.out.below hw').call hw'.size) (by omega) H2.out).mono fun e w1 ⟨he, hb⟩ => ⟨he, hw'.trans (hb.mono hw'.size)⟩
  go_simp
  refine hK _ ?_
  clear hK K
  refine BigFrame.wpQuiet_want (by rfl) (fun K hK => ⟨.int .i64 p, fun w' hw' => ?_, ?_⟩)
  · unfold Oper.quietAt
    go_simp
    exact (implOr_v dsa ba o i _ _ _ _ ((Sa_4.out.below hw').call hw'.size) (by omega) H3.out).mono fun e w1 ⟨he, hb⟩ => ⟨he, hw'.trans (hb.mono hw'.size)⟩
  go_simp
  refine hK _ ?_
  clear hK K
  go_big_quiet_step (exact fun _ => rfl)
  go_big_quiet_step (exact fun _ => rfl)
  go_big_quiet_step (exact fun _ => rfl)
  go_big_quiet_step (exact fun _ => rfl)
  refine BigFrame.wpQuiet_want (by rfl) (fun K hK => ⟨.agg #[.slice Aa dsa.length ca, .int .i64 ba], fun w' hw' => ?_, ?_⟩)
  · have c0 := keep1 hw' ba_4
    have c1 := keep1 hw' va_4
    unfold Oper.quietAt
    go_simp
  go_simp
  refine hK _ ?_
  clear hK K
  go_big_quiet_step (exact fun _ => rfl)
  go_big_quiet_step (exact fun _ => rfl)
  refine BigFrame.wpQuiet_want (by rfl) (fun K hK => ⟨.bool true, fun w' hw' => ?_, ?_⟩)
  · unfold Oper.quietAt
    go_simp
    exact (implHas_v dsa ba p o _ _ _ _ ((Sa_4.out.below hw').call hw'.size) (by omega) H4.out).mono fun e w1 ⟨he, hb⟩ => ⟨he, hw'.trans (hb.mono hw'.size)⟩
  go_simp
  refine hK _ ?_
  clear hK K
  go_big_quiet_step (exact fun _ => rfl)
  go_big_quiet_step (exact fun _ => rfl)
  refine wpQuiet_nil ?_
  intro w5 hb
  have ba_5 := keep1 hb ba_4
  have va_5 := keep1 hb va_4
  have Sa_5 := Lib.hid ((Sa_4.out.below hb).call hb.size)
  have HB_5 : Hid (Below w.heap.size w w5) := Lib.hid (HB_4.out.trans (hb.mono HB_4.out.size))
  clear hb ba_4 va_4 Sa_4 HB_4
  go_wp2
  go_ret
  exact ⟨rfl, HB_5.out⟩

theorem lifted (os : Os) (started : os.Started) (H : Type) (enc : TypeId × Value → H) :
    ReturnsInHanded {} Try.checked os 11 .any (Rows.fnLessValuesSpec.pre6 enc Try.prog Try.f11 Rows.fnLessValuesRow.domain false) (Rows.fnLessValuesSpec.post enc Try.prog Try.f11 false true false false) := by
  refine returnsInHanded_of_change (C := Try.checked) own started (by kernel_rfl) Try.func11
    (ChangeSpec.witness6 (enc := enc) (C := Try.checked) false ⟨#[], #[.slice none 0 0], []⟩ 8 (by kernel_rfl) (by kernel_rfl) (by kernel_rfl) (by kernel_rfl)) ?_
  intro W base args ds gs before hval0 hW hcnd _
  have hval : ∀ (j : Nat) t v, Try.f11.params[j]? = some t → args[j]? = some v → Value.okWide Try.prog W .any base t v := hval0
  have hW' := hW
  obtain ⟨p, q, hA0, hV, rfl, hfz, hnd⟩ := hW
  have hA : DataW.TrodAll enc Try.prog W 0 (fun _ => true) true Try.f11.params.toList args.toList ds p := hA0
  rw [Try.params11] at hA hval
  obtain ⟨v0, vs0, d0, ds0, p0, q0, hargs, rfl, rfl, h0, r0⟩ := trodAll_cons hA
  obtain ⟨rfl, rfl, rfl⟩ := trodAll_nil r0
  obtain rfl : args = #[v0] := by cases args; simp_all
  obtain ⟨rfl, rfl⟩ := trodVars_none hV
  have k0 := h0
  have lt0 : ∀ x ∈ p0, x.block < W.heap.size := by obtain ⟨m, hm⟩ := k0; exact DataW.trod_lt m _ _ _ hm
  obtain ⟨A0, n0, c0, l0, rfl, w0⟩ := open_code (hval 0 22 v0 rfl rfl) h0
  clear hA0 hval0
  refine (walk A0 n0 c0 l0 W w0).mono fun e W' ⟨he, bel⟩ => ?_
  subst he
  exact ⟨_, rfl, _, _, _, [], _, [], hW', trodAll_mk1 (shut_bool Try.underlying4 _), (trodAll_cons_mk (Below.trod laidOut (by kernel_rfl) (of_decide_eq_true (by kernel_rfl)) k0 bel lt0) trodAll_mk0), rfl, bel.frame _, fun h => by cases h⟩

theorem over : Rows.fnLessValuesRow.holds Try.pinned (OpenSpec.ofChange Rows.fnLessValuesSpec) :=
  OpenClaim.holds_of_wide 11 Try.f11 rfl rfl rfl rfl rfl rfl rfl ⟨rfl, rfl, rfl, rfl, rfl⟩ rfl rfl rfl rfl rfl (by kernel_rfl) Try.func11 (by kernel_rfl)
    (of_decide_eq_true (by kernel_rfl)) (by unfold Func.isWrapper; first | (rw [if_pos (by decide +kernel)]; kernel_rfl) | (rw [if_neg (by decide +kernel)]; exact ⟨rfl, rfl⟩))
    (fun os started H enc _ => lifted os started H enc)

theorem proved : Rows.FnLessValuesSaid := over
end Go.Proofs.Ytnaojafidhloeaa.fnLessValues
