/-
For every code the law of either, which spreads over both, returns true.
Conditions: none.
-/
import Derived.Test.YtnaojafidhloeaaGenV
import Derived.Test.YtnaojafidhloeaaOpenC
import Derived.Test.YtnaojafidhloeaaLFlag
import Derived.Test.YtnaojafidhloeaaLAlg
import Derived.Test.YtnaojafidhloeaaAlgS
import Derived.Test.YtnaojafidhloeaaAlgI
namespace Go.Proofs.Ytnaojafidhloeaa.fnAndValuesOr
open Go.ChangeShapes Go.WideShapes Go.ChangeAt Go.RowKit
open Go.ChangeMaps (open_string shut_string)
set_option linter.unusedVariables false
set_option maxRecDepth 100000

set_option maxHeartbeats 16000000 in
theorem walk (A : Option Addr) (n c : Nat) (zs : List Int) (w : World) (h : SB w w.heap.size A n c zs) :
    Calls Try.prog 9 #[.slice A n c] w fun e w' => e = .returned (.bool true) ∧ Below w.heap.size w w' := by
  have hm := h.max
  have hcap := h.cap
  unfold maxLen at hm
  have HS0 := Lib.hid h
  clear h
  by_cases hbig : 1048576 < (n : Int)
  · go_enter Try.func9, Try.ntmps9
    go_wp2
    go_ret
    exact ⟨rfl, Below.refl _ _⟩
  go_enter Try.func9, Try.ntmps9
  go_wp2_with fail
  refine (drawAndValues_any A n c zs _ HS0.out).mono ?_
  rintro e w1 ⟨Aa, ca, dsa, ba, xa, xb, rfl, hna, hsma, hbda, hxa, hxb, hsa, hb⟩
  have HB_1 := Lib.hid hb
  have Sa_1 := Lib.hid hsa
  have HSMa := Lib.hid hsma
  have HOKa : Hid (∀ d ∈ dsa, d.ok) := Lib.hid (fun d hd => small_ok (hsma d hd))
  have HBDa := Lib.hid hbda
  clear hb hsa hsma hbda
  obtain ⟨w2, hw⟩ : ∃ W : World, W = (w1.alloc (.cells #[.slice Aa dsa.length ca, .int .i64 ba] 25)) := ⟨_, rfl⟩
  have hb : Below w1.heap.size w1 w2 := by rw [hw]; exact ((Below.refl _ _).alloc (by first | exact Nat.le_refl _ | (simp; done) | (simp; omega)) _)
  have Sa_2 := Lib.hid ((Sa_1.out.below hb).call hb.size)
  have HB_2 : Hid (Below w.heap.size w w2) := Lib.hid (HB_1.out.trans (hb.mono HB_1.out.size))
  have ba_2 : w2.cell? ⟨w1.heap.size, 0, none⟩ = some (.slice Aa dsa.length ca) := by rw [hw]; simp [go_sem]
  have va_2 : w2.cell? ⟨w1.heap.size, 1, none⟩ = some (.int .i64 ba) := by rw [hw]; simp [go_sem]
  have lf_ba : (w1.alloc (.cells #[.slice Aa dsa.length ca, .int .i64 ba] 25)).cell? ⟨w1.heap.size, 0, none⟩ = some (.slice Aa dsa.length ca) := by rw [← hw]; exact ba_2
  have lf_va : (w1.alloc (.cells #[.slice Aa dsa.length ca, .int .i64 ba] 25)).cell? ⟨w1.heap.size, 1, none⟩ = some (.int .i64 ba) := by rw [← hw]; exact va_2
  have HW2 : Hid ((w1.alloc (.cells #[.slice Aa dsa.length ca, .int .i64 ba] 25)) = w2) := Lib.hid hw.symm
  clear hb hw Sa_1 HB_1
  obtain ⟨r, hr⟩ : ∃ r, mOp andN dsa ba xa xb = r := ⟨_, rfl⟩
  have HR := Lib.hid hr
  clear hr
  go_wp2_with fail
  rw [HW2.out]
  clear lf_ba lf_va
  refine (implAnd_v dsa ba xa xb _ _ _ _ Sa_2.out (by omega) HR.out).mono ?_
  rintro e w3 ⟨rfl, hb⟩
  have ba_3 := keep1 hb ba_2
  have va_3 := keep1 hb va_2
  have Sa_3 := Lib.hid ((Sa_2.out.below hb).call hb.size)
  have HB_3 : Hid (Below w.heap.size w w3) := Lib.hid (HB_2.out.trans (hb.mono HB_2.out.size))
  clear hb  ba_2 va_2 Sa_2 HB_2
  go_wp2_with fail
  refine (specAnd_v dsa ba xa xb _ _ _ _ Sa_3.out HR.out).mono ?_
  rintro e w4 ⟨rfl, hb⟩
  have ba_4 := keep1 hb ba_3
  have va_4 := keep1 hb va_3
  have Sa_4 := Lib.hid ((Sa_3.out.below hb).call hb.size)
  have HB_4 : Hid (Below w.heap.size w w4) := Lib.hid (HB_3.out.trans (hb.mono HB_3.out.size))
  clear hb  ba_3 va_3 Sa_3 HB_3
  by_cases h0 : r < 0
  · skip
    go_wp2_with fail
    refine (specAnd_v dsa ba xa xb _ _ _ _ Sa_4.out HR.out).mono ?_
    rintro e w5 ⟨rfl, hb⟩
    have ba_5 := keep1 hb ba_4
    have va_5 := keep1 hb va_4
    have Sa_5 := Lib.hid ((Sa_4.out.below hb).call hb.size)
    have HB_5 : Hid (Below w.heap.size w w5) := Lib.hid (HB_4.out.trans (hb.mono HB_4.out.size))
    clear hb  ba_4 va_4 Sa_4 HB_4
    go_wp2
    go_ret
    exact ⟨rfl, HB_5.out⟩
  have ht := op_two (by rw [HR.out]; exact h0)
  obtain ⟨p, rfl, hp⟩ := mIsV_nat (mTwo_1 ht)
  obtain ⟨q, rfl, hq⟩ := mIsV_nat (mTwo_2 ht)
  have HVp := Lib.hid (mTwo_1 ht)
  have HVq := Lib.hid (mTwo_2 ht)
  obtain ⟨o, qo⟩ : ∃ o, p &&& q = o := ⟨_, rfl⟩
  have ho : o < 4096 := by rw [← qo]; exact and_lt hp
  have HVo : Hid (mIsV dsa ba (o : Nat) = true) := Lib.hid (by rw [← qo]; exact v_and HVp.out HVq.out)
  obtain rfl : r = (o : Int) := by rw [← HR.out]; exact op_is HVp.out HVq.out qo
  clear ht h0 hxa hxb
  have HFL := Lib.hid (mIsV_flag HVp.out)
  obtain ⟨m, qm⟩ : ∃ m, mMask dsa = m := ⟨_, rfl⟩
  have HVm : Hid (mIsV dsa ba (m : Nat) = true) := Lib.hid (by rw [← qm]; exact v_mask HFL.out)
  have hm : m < 4096 := by rw [← qm]; exact mMask_lt12 (vFlag_in HFL.out)
  have HMK : Hid (mMaskOf dsa ba = (m : Int)) := Lib.hid (by rw [← qm]; exact if_yes HFL.out)
  obtain ⟨c, qc⟩ : ∃ c, p ^^^ m = c := ⟨_, rfl⟩
  have hc : c < 4096 := by rw [← qc]; exact xor_lt hp hm
  have HVc : Hid (mIsV dsa ba (c : Nat) = true) := Lib.hid (by rw [← qc]; exact v_xor HVp.out HVm.out)
  have H0 : Hid (mOp xorN dsa ba (p : Nat) (m : Nat) = (c : Int)) := Lib.hid (op_is HVp.out HVm.out (by exact qc))
  obtain ⟨u, qu⟩ : ∃ u, p ||| q = u := ⟨_, rfl⟩
  have hu : u < 4096 := by rw [← qu]; exact or_lt hp hq
  have HVu : Hid (mIsV dsa ba (u : Nat) = true) := Lib.hid (by rw [← qu]; exact v_or HVp.out HVq.out)
  have H1 : Hid (mOp orN dsa ba (p : Nat) (q : Nat) = (u : Int)) := Lib.hid (op_is HVp.out HVq.out (by exact qu))
  obtain ⟨s, qs⟩ : ∃ s, c &&& u = s := ⟨_, rfl⟩
  have hs : s < 4096 := by rw [← qs]; exact and_lt hc
  have HVs : Hid (mIsV dsa ba (s : Nat) = true) := Lib.hid (by rw [← qs]; exact v_and HVc.out HVu.out)
  have H2 : Hid (mOp andN dsa ba (c : Nat) (u : Nat) = (s : Int)) := Lib.hid (op_is HVc.out HVu.out (by exact qs))
  obtain ⟨i, qi⟩ : ∃ i, c &&& p = i := ⟨_, rfl⟩
  have hi : i < 4096 := by rw [← qi]; exact and_lt hc
  have HVi : Hid (mIsV dsa ba (i : Nat) = true) := Lib.hid (by rw [← qi]; exact v_and HVc.out HVp.out)
  have H3 : Hid (mOp andN dsa ba (c : Nat) (p : Nat) = (i : Int)) := Lib.hid (op_is HVc.out HVp.out (by exact qi))
  obtain ⟨j, qj⟩ : ∃ j, c &&& q = j := ⟨_, rfl⟩
  have hj : j < 4096 := by rw [← qj]; exact and_lt hc
  have HVj : Hid (mIsV dsa ba (j : Nat) = true) := Lib.hid (by rw [← qj]; exact v_and HVc.out HVq.out)
  have H4 : Hid (mOp andN dsa ba (c : Nat) (q : Nat) = (j : Int)) := Lib.hid (op_is HVc.out HVq.out (by exact qj))
  have H5 : Hid (mOp orN dsa ba (i : Nat) (j : Nat) = (s : Int)) := Lib.hid (op_is HVi.out HVj.out (by rw [← qi, ← qj, ← qs, ← qu]; exact (bd1 _ _ _).symm))
  obtain ⟨t, qt⟩ : ∃ t, c ||| o = t := ⟨_, rfl⟩
  have ht : t < 4096 := by rw [← qt]; exact or_lt hc ho
  have HVt : Hid (mIsV dsa ba (t : Nat) = true) := Lib.hid (by rw [← qt]; exact v_or HVc.out HVo.out)
  have H6 : Hid (mOp orN dsa ba (c : Nat) (o : Nat) = (t : Int)) := Lib.hid (op_is HVc.out HVo.out (by exact qt))
  obtain ⟨k, qk⟩ : ∃ k, c ||| p = k := ⟨_, rfl⟩
  have hk : k < 4096 := by rw [← qk]; exact or_lt hc hp
  have HVk : Hid (mIsV dsa ba (k : Nat) = true) := Lib.hid (by rw [← qk]; exact v_or HVc.out HVp.out)
  have H7 : Hid (mOp orN dsa ba (c : Nat) (p : Nat) = (k : Int)) := Lib.hid (op_is HVc.out HVp.out (by exact qk))
  obtain ⟨l, ql⟩ : ∃ l, c ||| q = l := ⟨_, rfl⟩
  have hl : l < 4096 := by rw [← ql]; exact or_lt hc hq
  have HVl : Hid (mIsV dsa ba (l : Nat) = true) := Lib.hid (by rw [← ql]; exact v_or HVc.out HVq.out)
  have H8 : Hid (mOp orN dsa ba (c : Nat) (q : Nat) = (l : Int)) := Lib.hid (op_is HVc.out HVq.out (by exact ql))
  have H9 : Hid (mOp andN dsa ba (k : Nat) (l : Nat) = (t : Int)) := Lib.hid (op_is HVk.out HVl.out (by rw [← qk, ← ql, ← qt, ← qo]; exact (bd2 _ _ _).symm))
  clear qo qm qc qu qs qi qj qt qk ql
  go_wp2_with fail
  go_region_held3 (fun w' => w'.cell? ⟨w1.heap.size, 0, none⟩ = some (.slice Aa dsa.length ca) ∧ w'.cell? ⟨w1.heap.size, 1, none⟩ = some (.int .i64 ba))
    (first | go_keep | exact ⟨ba_4, va_4⟩ | exact ⟨ba_5, va_5⟩ | exact ⟨ba_6, va_6⟩)
    (first
      | (go_at_call 16; refine (implMaskOf_v dsa ba _ _ _ _ (Sa_4.out.drewN 1) (by omega) HMK.out).mono ?_; rintro e w5 ⟨rfl, hb⟩; replace hb : Below w4.heap.size w4 w5 := (by first | exact hb | exact undrew hb); have ba_5 := keep1 hb ba_4; have va_5 := keep1 hb va_4; have Sa_5 := Lib.hid ((Sa_4.out.below hb).call hb.size); have HB_5 : Hid (Below w.heap.size w w5) := Lib.hid (HB_4.out.trans (hb.mono HB_4.out.size)); clear hb)
      | (go_at_call 41; refine (implXor_v dsa ba p m _ _ _ _ Sa_5.out (by omega) H0.out).mono ?_; rintro e w6 ⟨rfl, hb⟩; have ba_6 := keep1 hb ba_5; have va_6 := keep1 hb va_5; have Sa_6 := Lib.hid ((Sa_5.out.below hb).call hb.size); have HB_6 : Hid (Below w.heap.size w w6) := Lib.hid (HB_5.out.trans (hb.mono HB_5.out.size)); clear hb))
  go_wp2_with fail
  refine wp_region_still (by kernel_rfl) (by kernel_rfl) ?_
  refine BigFrame.wpQuiet_want (by rfl) (fun K hK => ⟨.agg #[.slice Aa dsa.length ca, .int .i64 ba], fun w' hw' => ?_, ?_⟩)
  · have c0 := keep1 hw' ba_6
    have c1 := keep1 hw' va_6
    unfold Oper.quietAt
    go_simp
  go_simp
  refine hK _ ?_
  clear hK K
  go_big_quiet_step (exact fun _ => rfl)
  refine BigFrame.wpQuiet_want (by rfl) (fun K hK => ⟨.agg #[.slice Aa dsa.length ca, .int .i64 ba], fun w' hw' => ?_, ?_⟩)
  · have c0 := keep1 hw' ba_6
    have c1 := keep1 hw' va_6
    unfold Oper.quietAt
    go_simp
  go_simp
  refine hK _ ?_
  clear hK K
  go_big_quiet_step (exact fun _ => rfl)
  go_big_quiet_step (exact fun _ => rfl)
  refine BigFrame.wpQuiet_want (by rfl) (fun K hK => ⟨.int .i64 u, fun w' hw' => ?_, ?_⟩)
  · unfold Oper.quietAt
    go_simp
    exact (implOr_v dsa ba p q _ _ _ _ ((Sa_6.out.below hw').call hw'.size) (by omega) H1.out).mono fun e w1 ⟨he, hb⟩ => ⟨he, hw'.trans (hb.mono hw'.size)⟩
  go_simp
  refine hK _ ?_
  clear hK K
  refine BigFrame.wpQuiet_want (by rfl) (fun K hK => ⟨.int .i64 s, fun w' hw' => ?_, ?_⟩)
  · unfold Oper.quietAt
    go_simp
    exact (implAnd_v dsa ba c u _ _ _ _ ((Sa_6.out.below hw').call hw'.size) (by omega) H2.out).mono fun e w1 ⟨he, hb⟩ => ⟨he, hw'.trans (hb.mono hw'.size)⟩
  go_simp
  refine hK _ ?_
  clear hK K
  refine BigFrame.wpQuiet_want (by rfl) (fun K hK => ⟨.agg #[.slice Aa dsa.length ca, .int .i64 ba], fun w' hw' => ?_, ?_⟩)
  · have c0 := keep1 hw' ba_6
    have c1 := keep1 hw' va_6
    unfold Oper.quietAt
    go_simp
  go_simp
  refine hK _ ?_
  clear hK K
  refine BigFrame.wpQuiet_want (by rfl) (fun K hK => ⟨.agg #[.slice Aa dsa.length ca, .int .i64 ba], fun w' hw' => ?_, ?_⟩)
  · have c0 := keep1 hw' ba_6
    have c1 := keep1 hw' va_6
    unfold Oper.quietAt
    go_simp
  go_simp
  refine hK _ ?_
  clear hK K
  go_big_quiet_step (exact fun _ => rfl)
  go_big_quiet_step (exact fun _ => rfl)
  refine BigFrame.wpQuiet_want (by rfl) (fun K hK => ⟨.int .i64 i, fun w' hw' => ?_, ?_⟩)
  · unfold Oper.quietAt
    go_simp
    exact (implAnd_v dsa ba c p _ _ _ _ ((Sa_6.out.below hw').call hw'.size) (by omega) H3.out).mono fun e w1 ⟨he, hb⟩ => ⟨he, hw'.trans (hb.mono hw'.size)⟩
  go_simp
  refine hK _ ?_
  clear hK K
  refine BigFrame.wpQuiet_want (by rfl) (fun K hK => ⟨.agg #[.slice Aa dsa.length ca, .int .i64 ba], fun w' hw' => ?_, ?_⟩)
  · have c0 := keep1 hw' ba_6
    have c1 := keep1 hw' va_6
    unfold Oper.quietAt
    go_simp
  go_simp
  refine hK _ ?_
  clear hK K
  go_big_quiet_step (exact fun _ => rfl)
  go_big_quiet_step (exact fun _ => rfl)
  refine BigFrame.wpQuiet_want (by rfl) (fun K hK => ⟨.int .i64 j, fun w' hw' => ?_, ?_⟩)
  · unfold Oper.quietAt
    go_simp
    exact (implAnd_v dsa ba c q _ _ _ _ ((Sa_6.out.below hw').call hw'.size) (by omega) H4.out).mono fun e w1 ⟨he, hb⟩ => ⟨he, hw'.trans (hb.mono hw'.size)⟩
  go_simp
  refine hK _ ?_
  clear hK K
  refine BigFrame.wpQuiet_want (by rfl) (fun K hK => ⟨.int .i64 s, fun w' hw' => ?_, ?_⟩)
  · unfold Oper.quietAt
    go_simp
    exact (implOr_v dsa ba i j _ _ _ _ ((Sa_6.out.below hw').call hw'.size) (by omega) H5.out).mono fun e w1 ⟨he, hb⟩ => ⟨he, hw'.trans (hb.mono hw'.size)⟩
  go_simp
  refine hK _ ?_
  clear hK K
  go_big_quiet_step (exact fun _ => rfl)
  go_big_quiet_step (exact fun _ => rfl)
  refine BigFrame.wpQuiet_want (by rfl) (fun K hK => ⟨.agg #[.slice Aa dsa.length ca, .int .i64 ba], fun w' hw' => ?_, ?_⟩)
  · have c0 := keep1 hw' ba_6
    have c1 := keep1 hw' va_6
    unfold Oper.quietAt
    go_simp
  go_simp
  refine hK _ ?_
  clear hK K
  go_big_quiet_step (exact fun _ => rfl)
  go_big_quiet_step (exact fun _ => rfl)
  refine BigFrame.wpQuiet_want (by rfl) (fun K hK => ⟨.int .i64 t, fun w' hw' => ?_, ?_⟩)
  · unfold Oper.quietAt
    go_simp
    exact (implOr_v dsa ba c o _ _ _ _ ((Sa_6.out.below hw').call hw'.size) (by omega) H6.out).mono fun e w1 ⟨he, hb⟩ => ⟨he, hw'.trans (hb.mono hw'.size)⟩
  go_simp
  refine hK _ ?_
  clear hK K
  refine BigFrame.wpQuiet_want (by rfl) (fun K hK => ⟨.agg #[.slice Aa dsa.length ca, .int .i64 ba], fun w' hw' => ?_, ?_⟩)
  · have c0 := keep1 hw' ba_6
    have c1 := keep1 hw' va_6
    unfold Oper.quietAt
    go_simp
  go_simp
  refine hK _ ?_
  clear hK K
  refine BigFrame.wpQuiet_want (by rfl) (fun K hK => ⟨.agg #[.slice Aa dsa.length ca, .int .i64 ba], fun w' hw' => ?_, ?_⟩)
  · have c0 := keep1 hw' ba_6
    have c1 := keep1 hw' va_6
    unfold Oper.quietAt
    go_simp
  go_simp
  refine hK _ ?_
  clear hK K
  go_big_quiet_step (exact fun _ => rfl)
  go_big_quiet_step (exact fun _ => rfl)
  refine BigFrame.wpQuiet_want (by rfl) (fun K hK => ⟨.int .i64 k, fun w' hw' => ?_, ?_⟩)
  · unfold Oper.quietAt
    go_simp
    exact (implOr_v dsa ba c p _ _ _ _ ((Sa_6.out.below hw').call hw'.size) (by omega) H7.out).mono fun e w1 ⟨he, hb⟩ => ⟨he, hw'.trans (hb.mono hw'.size)⟩
  go_simp
  refine hK _ ?_
  clear hK K
  refine BigFrame.wpQuiet_want (by rfl) (fun K hK => ⟨.agg #[.slice Aa dsa.length ca, .int .i64 ba], fun w' hw' => ?_, ?_⟩)
  · have c0 := keep1 hw' ba_6
    have c1 := keep1 hw' va_6
    unfold Oper.quietAt
    go_simp
  go_simp
  refine hK _ ?_
  clear hK K
  go_big_quiet_step (exact fun _ => rfl)
  go_big_quiet_step (exact fun _ => rfl)
  refine BigFrame.wpQuiet_want (by rfl) (fun K hK => ⟨.int .i64 l, fun w' hw' => ?_, ?_⟩)
  · unfold Oper.quietAt
    go_simp
    exact (implOr_v dsa ba c q _ _ _ _ ((Sa_6.out.below hw').call hw'.size) (by omega) H8.out).mono fun e w1 ⟨he, hb⟩ => ⟨he, hw'.trans (hb.mono hw'.size)⟩
  go_simp
  refine hK _ ?_
  clear hK K
  refine BigFrame.wpQuiet_want (by rfl) (fun K hK => ⟨.int .i64 t, fun w' hw' => ?_, ?_⟩)
  · unfold Oper.quietAt
    go_simp
    exact (implAnd_v dsa ba k l _ _ _ _ ((Sa_6.out.below hw').call hw'.size) (by omega) H9.out).mono fun e w1 ⟨he, hb⟩ => ⟨he, hw'.trans (hb.mono hw'.size)⟩
  go_simp
  refine hK _ ?_
  clear hK K
  go_big_quiet_step (exact fun _ => rfl)
  go_big_quiet_step (exact fun _ => rfl)
  go_big_quiet_step (exact fun _ => rfl)
  refine wpQuiet_nil ?_
  intro w7 hb
  have ba_7 := keep1 hb ba_6
  have va_7 := keep1 hb va_6
  have Sa_7 := Lib.hid ((Sa_6.out.below hb).call hb.size)
  have HB_7 : Hid (Below w.heap.size w w7) := Lib.hid (HB_6.out.trans (hb.mono HB_6.out.size))
  clear hb ba_6 va_6 Sa_6 HB_6
  go_wp2
  go_ret
  exact ⟨rfl, HB_7.out⟩

theorem lifted (os : Os) (started : os.Started) (H : Type) (enc : TypeId × Value → H) :
    ReturnsInHanded {} Try.checked os 9 .any (Rows.fnAndValuesOrSpec.pre6 enc Try.prog Try.f9 Rows.fnAndValuesOrRow.domain false) (Rows.fnAndValuesOrSpec.post enc Try.prog Try.f9 false true false false) := by
  refine returnsInHanded_of_change (C := Try.checked) own started (by kernel_rfl) Try.func9
    (ChangeSpec.witness6 (enc := enc) (C := Try.checked) false ⟨#[], #[.slice none 0 0], []⟩ 8 (by kernel_rfl) (by kernel_rfl) (by kernel_rfl) (by kernel_rfl)) ?_
  intro W base args ds gs before hval0 hW hcnd _
  have hval : ∀ (j : Nat) t v, Try.f9.params[j]? = some t → args[j]? = some v → Value.okWide Try.prog W .any base t v := hval0
  have hW' := hW
  obtain ⟨p, q, hA0, hV, rfl, hfz, hnd⟩ := hW
  have hA : DataW.TrodAll enc Try.prog W 0 (fun _ => true) true Try.f9.params.toList args.toList ds p := hA0
  rw [Try.params9] at hA hval
  obtain ⟨v0, vs0, d0, ds0, p0, q0, hargs, rfl, rfl, h0, r0⟩ := trodAll_cons hA
  obtain ⟨rfl, rfl, rfl⟩ := trodAll_nil r0
  obtain rfl : args = #[v0] := by cases args; simp_all
  obtain ⟨rfl, rfl⟩ := trodVars_none hV
  have k0 := h0
  have lt0 : ∀ x ∈ p0, x.block < W.heap.size := by obtain ⟨m, hm⟩ := k0; exact DataW.trod_lt m _ _ _ hm
  obtain ⟨A0, n0, c0, l0, rfl, w0⟩ := open_code (hval 0 22 v0 rfl rfl) h0
  clear hA0 hval0
  refine (walk A0 n0 c0 l0 W w0).mono fun e W' ⟨he, bel⟩ => ?_
  subst he
  exact ⟨_, rfl, _, _, _, [], _, [], hW', trodAll_mk1 (shut_bool Try.underlying4 _), (trodAll_cons_mk (Below.trod laidOut (by kernel_rfl) (of_decide_eq_true (by kernel_rfl)) k0 bel lt0) trodAll_mk0), rfl, bel.frame _, fun h => by cases h⟩

theorem over : Rows.fnAndValuesOrRow.holds Try.pinned (OpenSpec.ofChange Rows.fnAndValuesOrSpec) :=
  OpenClaim.holds_of_wide 9 Try.f9 rfl rfl rfl rfl rfl rfl rfl ⟨rfl, rfl, rfl, rfl, rfl⟩ rfl rfl rfl rfl rfl (by kernel_rfl) Try.func9 (by kernel_rfl)
    (of_decide_eq_true (by kernel_rfl)) (by unfold Func.isWrapper; first | (rw [if_pos (by decide +kernel)]; kernel_rfl) | (rw [if_neg (by decide +kernel)]; exact ⟨rfl, rfl⟩))
    (fun os started H enc _ => lifted os started H enc)

theorem proved : Rows.FnAndValuesOrSaid := over
end Go.Proofs.Ytnaojafidhloeaa.fnAndValuesOr
