/-
For every code the law of arms that stay valid in parts and turned round returns true.
Conditions: none.
-/
import Derived.Test.YtcaobalijnajgaaGenY
import Derived.Test.YtcaobalijnajgaaOpenC
import Derived.Test.YtcaobalijnajgaaLFlag
import Derived.Test.YtcaobalijnajgaaLArm
import Derived.Test.YtcaobalijnajgaaAlgS
import Derived.Test.YtcaobalijnajgaaAlgI
import Derived.Test.YtcaobalijnajgaaArmS
import Derived.Test.YtcaobalijnajgaaArmJ
namespace Go.Proofs.Ytcaobalijnajgaa.fnValidArm
open Go.ChangeShapes Go.WideShapes Go.ChangeAt Go.RowKit
open Go.ChangeMaps (open_string shut_string)
set_option linter.unusedVariables false
set_option maxRecDepth 100000

set_option maxHeartbeats 16000000 in
theorem walk (A : Option Addr) (n c : Nat) (zs : List Int) (w : World) (h : SB w w.heap.size A n c zs) :
    Calls Try.prog 3 #[.slice A n c] w fun e w' => e = .returned (.bool true) ∧ Below w.heap.size w w' := by
  have hm := h.max
  have hcap := h.cap
  unfold maxLen at hm
  have HS0 := Lib.hid h
  clear h
  by_cases hbig : 1048576 < (n : Int)
  · go_enter Try.func3, Try.ntmps3
    go_wp2
    go_ret
    exact ⟨rfl, Below.refl _ _⟩
  go_enter Try.func3, Try.ntmps3
  go_wp2_with fail
  refine (drawValidArm_any A n c zs _ HS0.out).mono ?_
  rintro e w1 ⟨Aa, ca, dsa, ba, x1, y1, rfl, hna, hsma, hbda, hx1, hy1, hsa, hb⟩
  have HB_1 := Lib.hid hb
  have Sa_1 := Lib.hid hsa
  have HSMa := Lib.hid hsma
  have HOKa : Hid (∀ d ∈ dsa, d.ok) := Lib.hid (fun d hd => small_ok (hsma d hd))
  have HBDa := Lib.hid hbda
  have I11 : I64 x1 := by unfold I64; omega
  have I12 : I64 y1 := by unfold I64; omega
  clear hb hsa hsma hbda
  obtain ⟨w2, hw⟩ : ∃ W : World, W = ((w1.alloc (.cells #[.slice Aa dsa.length ca, .int .i64 ba] 25)).alloc (.cells #[.int .i64 x1, .int .i64 y1] 27)) := ⟨_, rfl⟩
  have hb : Below w1.heap.size w1 w2 := by rw [hw]; exact (((Below.refl _ _).alloc (by first | exact Nat.le_refl _ | (simp; done) | (simp; omega)) _).alloc (by first | exact Nat.le_refl _ | (simp; done) | (simp; omega)) _)
  have Sa_2 := Lib.hid ((Sa_1.out.below hb).call hb.size)
  have HB_2 : Hid (Below w.heap.size w w2) := Lib.hid (HB_1.out.trans (hb.mono HB_1.out.size))
  have ba_2 : w2.cell? ⟨w1.heap.size, 0, none⟩ = some (.slice Aa dsa.length ca) := by rw [hw]; simp [go_sem]
  have va_2 : w2.cell? ⟨w1.heap.size, 1, none⟩ = some (.int .i64 ba) := by rw [hw]; simp [go_sem]
  have p1_2 : w2.cell? ⟨w1.heap.size + 1, 0, none⟩ = some (.int .i64 x1) := by rw [hw]; simp [go_sem]
  have q1_2 : w2.cell? ⟨w1.heap.size + 1, 1, none⟩ = some (.int .i64 y1) := by rw [hw]; simp [go_sem]
  have lf_ba : ((w1.alloc (.cells #[.slice Aa dsa.length ca, .int .i64 ba] 25)).alloc (.cells #[.int .i64 x1, .int .i64 y1] 27)).cell? ⟨w1.heap.size, 0, none⟩ = some (.slice Aa dsa.length ca) := by rw [← hw]; exact ba_2
  have lf_va : ((w1.alloc (.cells #[.slice Aa dsa.length ca, .int .i64 ba] 25)).alloc (.cells #[.int .i64 x1, .int .i64 y1] 27)).cell? ⟨w1.heap.size, 1, none⟩ = some (.int .i64 ba) := by rw [← hw]; exact va_2
  have lf_p1 : ((w1.alloc (.cells #[.slice Aa dsa.length ca, .int .i64 ba] 25)).alloc (.cells #[.int .i64 x1, .int .i64 y1] 27)).cell? ⟨w1.heap.size + 1, 0, none⟩ = some (.int .i64 x1) := by rw [← hw]; exact p1_2
  have lf_q1 : ((w1.alloc (.cells #[.slice Aa dsa.length ca, .int .i64 ba] 25)).alloc (.cells #[.int .i64 x1, .int .i64 y1] 27)).cell? ⟨w1.heap.size + 1, 1, none⟩ = some (.int .i64 y1) := by rw [← hw]; exact q1_2
  have HW2 : Hid (((w1.alloc (.cells #[.slice Aa dsa.length ca, .int .i64 ba] 25)).alloc (.cells #[.int .i64 x1, .int .i64 y1] 27)) = w2) := Lib.hid hw.symm
  clear hb hw Sa_1 HB_1
  obtain ⟨v, hv⟩ : ∃ v, mArm dsa ba ⟨x1, y1⟩ = v := ⟨_, rfl⟩
  have HV := Lib.hid hv
  clear hv
  go_wp2_with fail
  rw [HW2.out]
  clear lf_ba lf_va lf_p1 lf_q1
  refine (implValidArm_v dsa ba x1 y1 _ _ _ _ Sa_2.out (by omega) I11 I12 HV.out).mono ?_
  rintro e w3 ⟨rfl, hb⟩
  have ba_3 := keep1 hb ba_2
  have va_3 := keep1 hb va_2
  have p1_3 := keep1 hb p1_2
  have q1_3 := keep1 hb q1_2
  have Sa_3 := Lib.hid ((Sa_2.out.below hb).call hb.size)
  have HB_3 : Hid (Below w.heap.size w w3) := Lib.hid (HB_2.out.trans (hb.mono HB_2.out.size))
  clear hb  ba_2 va_2 p1_2 q1_2 Sa_2 HB_2
  go_wp2_with fail
  refine (specValidArm_v dsa ba x1 y1 _ _ _ _ Sa_3.out HV.out).mono ?_
  rintro e w4 ⟨rfl, hb⟩
  have ba_4 := keep1 hb ba_3
  have va_4 := keep1 hb va_3
  have p1_4 := keep1 hb p1_3
  have q1_4 := keep1 hb q1_3
  have Sa_4 := Lib.hid ((Sa_3.out.below hb).call hb.size)
  have HB_4 : Hid (Below w.heap.size w w4) := Lib.hid (HB_3.out.trans (hb.mono HB_3.out.size))
  clear hb  ba_3 va_3 p1_3 q1_3 Sa_3 HB_3
  cases v
  · skip
    go_wp2_with fail
    refine (specValidArm_v dsa ba x1 y1 _ _ _ _ Sa_4.out HV.out).mono ?_
    rintro e w5 ⟨rfl, hb⟩
    have ba_5 := keep1 hb ba_4
    have va_5 := keep1 hb va_4
    have p1_5 := keep1 hb p1_4
    have q1_5 := keep1 hb q1_4
    have Sa_5 := Lib.hid ((Sa_4.out.below hb).call hb.size)
    have HB_5 : Hid (Below w.heap.size w w5) := Lib.hid (HB_4.out.trans (hb.mono HB_4.out.size))
    clear hb  ba_4 va_4 p1_4 q1_4 Sa_4 HB_4
    go_wp2
    go_ret
    exact ⟨rfl, HB_5.out⟩
  obtain ⟨p, q, rfl, rfl, hp, hq, bp, bq, dp, HFLp⟩ := arm_nat HV.out
  have HA : Hid (mArm dsa ba ⟨0, (q : Int)⟩ = true) := Lib.hid (arm_of (p := 0) HFLp (nl_nil _) bq (Nat.zero_and _))
  have HB : Hid (mArm dsa ba ⟨(p : Int), 0⟩ = true) := Lib.hid (arm_of (q := 0) HFLp bp (nl_nil _) (Nat.and_zero _))
  have HC : Hid (mArm dsa ba ⟨(q : Int), (p : Int)⟩ = true) := Lib.hid (arm_of HFLp bq bp (by rw [Nat.and_comm]; exact dp))
  have I0 : I64 0 := by unfold I64; omega
  go_wp2_with fail
  refine (implValidArm_v dsa ba 0 q _ _ _ _ Sa_4.out (by omega) I0 I12 HA.out).mono ?_
  rintro e w5 ⟨rfl, hb⟩
  have ba_5 := keep1 hb ba_4
  have va_5 := keep1 hb va_4
  have p1_5 := keep1 hb p1_4
  have q1_5 := keep1 hb q1_4
  have Sa_5 := Lib.hid ((Sa_4.out.below hb).call hb.size)
  have HB_5 : Hid (Below w.heap.size w w5) := Lib.hid (HB_4.out.trans (hb.mono HB_4.out.size))
  clear hb  ba_4 va_4 p1_4 q1_4 Sa_4 HB_4
  go_wp2_with fail
  refine (implValidArm_v dsa ba p 0 _ _ _ _ Sa_5.out (by omega) I11 I0 HB.out).mono ?_
  rintro e w6 ⟨rfl, hb⟩
  have ba_6 := keep1 hb ba_5
  have va_6 := keep1 hb va_5
  have p1_6 := keep1 hb p1_5
  have q1_6 := keep1 hb q1_5
  have Sa_6 := Lib.hid ((Sa_5.out.below hb).call hb.size)
  have HB_6 : Hid (Below w.heap.size w w6) := Lib.hid (HB_5.out.trans (hb.mono HB_5.out.size))
  clear hb  ba_5 va_5 p1_5 q1_5 Sa_5 HB_5
  go_wp2_with fail
  refine (implValidArm_v dsa ba q p _ _ _ _ Sa_6.out (by omega) I12 I11 HC.out).mono ?_
  rintro e w7 ⟨rfl, hb⟩
  have ba_7 := keep1 hb ba_6
  have va_7 := keep1 hb va_6
  have p1_7 := keep1 hb p1_6
  have q1_7 := keep1 hb q1_6
  have Sa_7 := Lib.hid ((Sa_6.out.below hb).call hb.size)
  have HB_7 : Hid (Below w.heap.size w w7) := Lib.hid (HB_6.out.trans (hb.mono HB_6.out.size))
  clear hb  ba_6 va_6 p1_6 q1_6 Sa_6 HB_6
  go_wp2
  go_ret
  exact ⟨rfl, HB_7.out⟩

theorem lifted (os : Os) (started : os.Started) (H : Type) (enc : TypeId × Value → H) :
    ReturnsInHanded {} Try.checked os 3 .any (Rows.fnValidArmSpec.pre6 enc Try.prog Try.f3 Rows.fnValidArmRow.domain false) (Rows.fnValidArmSpec.post enc Try.prog Try.f3 false true false false) := by
  refine returnsInHanded_of_change (C := Try.checked) own started (by kernel_rfl) Try.func3
    (ChangeSpec.witness6 (enc := enc) (C := Try.checked) false ⟨#[], #[.slice none 0 0], []⟩ 8 (by kernel_rfl) (by kernel_rfl) (by kernel_rfl) (by kernel_rfl)) ?_
  intro W base args ds gs before hval0 hW hcnd _
  have hval : ∀ (j : Nat) t v, Try.f3.params[j]? = some t → args[j]? = some v → Value.okWide Try.prog W .any base t v := hval0
  have hW' := hW
  obtain ⟨p, q, hA0, hV, rfl, hfz, hnd⟩ := hW
  have hA : DataW.TrodAll enc Try.prog W 0 (fun _ => true) true Try.f3.params.toList args.toList ds p := hA0
  rw [Try.params3] at hA hval
  obtain ⟨v0, vs0, d0, ds0, p0, q0, hargs, rfl, rfl, h0, r0⟩ := trodAll_cons hA
  obtain ⟨rfl, rfl, rfl⟩ := trodAll_nil r0
  obtain rfl : args = #[v0] := by cases args; simp_all
  obtain ⟨rfl, rfl⟩ := trodVars_none hV
  have k0 := h0
  have lt0 : ∀ x ∈ p0, x.block < W.heap.size := by obtain ⟨m, hm⟩ := k0; exact DataW.trod_lt m _ _ _ hm
  obtain ⟨A0, n0, c0, l0, rfl, w0⟩ := open_code (hval 0 22 v0 rfl rfl) h0
  clear hA0 hval0
  refine (walk A0 n0 c0 l0 W w0).mono fun e W' ⟨he, bel⟩ => ?_
  subst he
  exact ⟨_, rfl, _, _, _, [], _, [], hW', trodAll_mk1 (shut_bool Try.underlying4 _), (trodAll_cons_mk (Below.trod laidOut (by kernel_rfl) (of_decide_eq_true (by kernel_rfl)) k0 bel lt0) trodAll_mk0), rfl, bel.frame _, fun h => by cases h⟩

theorem over : Rows.fnValidArmRow.holds Try.pinned (OpenSpec.ofChange Rows.fnValidArmSpec) :=
  OpenClaim.holds_of_wide 3 Try.f3 rfl rfl rfl rfl rfl rfl rfl ⟨rfl, rfl, rfl, rfl, rfl⟩ rfl rfl rfl rfl rfl (by kernel_rfl) Try.func3 (by kernel_rfl)
    (of_decide_eq_true (by kernel_rfl)) (by unfold Func.isWrapper; first | (rw [if_pos (by decide +kernel)]; kernel_rfl) | (rw [if_neg (by decide +kernel)]; exact ⟨rfl, rfl⟩))
    (fun os started H enc _ => lifted os started H enc)

theorem proved : Rows.FnValidArmSaid := over
end Go.Proofs.Ytcaobalijnajgaa.fnValidArm
