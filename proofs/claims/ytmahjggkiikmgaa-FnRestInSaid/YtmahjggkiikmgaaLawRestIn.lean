/-
For every code the law of rests that have no names returns true.
Conditions: none.
-/
import Derived.Test.YtmahjggkiikmgaaGenW
import Derived.Test.YtmahjggkiikmgaaOpenC
import Derived.Test.YtmahjggkiikmgaaLFlag
import Derived.Test.YtmahjggkiikmgaaLAlgR
import Derived.Test.YtmahjggkiikmgaaLAlgN
import Derived.Test.YtmahjggkiikmgaaAlgS
import Derived.Test.YtmahjggkiikmgaaAlgJ
import Derived.Test.YtmahjggkiikmgaaLKept
namespace Go.Proofs.Ytmahjggkiikmgaa.fnRestIn
open Go.ChangeShapes Go.WideShapes Go.ChangeAt Go.RowKit
open Go.ChangeMaps (open_string shut_string)
set_option linter.unusedVariables false
set_option maxRecDepth 100000

set_option maxHeartbeats 16000000 in
theorem walk (A : Option Addr) (n c : Nat) (zs : List Int) (w : World) (h : SB w w.heap.size A n c zs) :
    Calls Try.prog 5 #[.slice A n c] w fun e w' => e = .returned (.bool true) ∧ Below w.heap.size w w' := by
  have hm := h.max
  have hcap := h.cap
  unfold maxLen at hm
  have HS0 := Lib.hid h
  clear h
  by_cases hbig : 1048576 < (n : Int)
  · go_enter Try.func5, Try.ntmps5
    go_wp2
    go_ret
    exact ⟨rfl, Below.refl _ _⟩
  go_enter Try.func5, Try.ntmps5
  go_wp2_with fail
  refine (drawRestIn_any A n c zs _ HS0.out).mono ?_
  rintro e w1 ⟨Aa, ca, dsa, ba, xa, rfl, hna, hsma, hbda, hxa, hsa, hb⟩
  have HB_1 := Lib.hid hb
  have Sa_1 := Lib.hid hsa
  have HSMa := Lib.hid hsma
  have HOKa : Hid (∀ d ∈ dsa, d.ok) := Lib.hid (fun d hd => small_ok (hsma d hd))
  have HBDa := Lib.hid hbda
  clear hb hsa hsma hbda
  obtain ⟨w2, hw⟩ : ∃ W : World, W = (w1.alloc (.cells #[.slice Aa dsa.length ca, .int .i64 ba] 25)) := ⟨_, rfl⟩
  have hb : Below w1.heap.size w1 w2 := by rw [hw]; exact ((Below.refl _ _).alloc (by first | exact Nat.le_refl _ | (simp; done) | (simp; omega)) _)
  have Sa_2 := Lib.hid ((Sa_1.out.below hb).call hb.size)
  have HB_2 : Hid (Below w.heap.size w w2) := Lib.hid (HB_1.out.trans (hb.mono HB_1.out.size))
  have ba_2 : w2.cell? ⟨w1.heap.size, 0, none⟩ = some (.slice Aa dsa.length ca) := by rw [hw]; simp [go_sem]
  have va_2 : w2.cell? ⟨w1.heap.size, 1, none⟩ = some (.int .i64 ba) := by rw [hw]; simp [go_sem]
  have lf_ba : (w1.alloc (.cells #[.slice Aa dsa.length ca, .int .i64 ba] 25)).cell? ⟨w1.heap.size, 0, none⟩ = some (.slice Aa dsa.length ca) := by rw [← hw]; exact ba_2
  have lf_va : (w1.alloc (.cells #[.slice Aa dsa.length ca, .int .i64 ba] 25)).cell? ⟨w1.heap.size, 1, none⟩ = some (.int .i64 ba) := by rw [← hw]; exact va_2
  have HW2 : Hid ((w1.alloc (.cells #[.slice Aa dsa.length ca, .int .i64 ba] 25)) = w2) := Lib.hid hw.symm
  clear hb hw Sa_1 HB_1
  obtain ⟨r, hr⟩ : ∃ r, mRestIn dsa ba xa = r := ⟨_, rfl⟩
  have HR := Lib.hid hr
  clear hr
  go_wp2_with fail
  rw [HW2.out]
  clear lf_ba lf_va
  refine (implRestIn_v dsa ba xa _ _ _ _ Sa_2.out (by omega) HR.out).mono ?_
  rintro e w3 ⟨rfl, hb⟩
  have ba_3 := keep1 hb ba_2
  have va_3 := keep1 hb va_2
  have Sa_3 := Lib.hid ((Sa_2.out.below hb).call hb.size)
  have HB_3 : Hid (Below w.heap.size w w3) := Lib.hid (HB_2.out.trans (hb.mono HB_2.out.size))
  clear hb  ba_2 va_2 Sa_2 HB_2
  go_wp2_with fail
  refine (specRestIn_v dsa ba xa _ _ _ _ Sa_3.out HR.out).mono ?_
  rintro e w4 ⟨rfl, hb⟩
  have ba_4 := keep1 hb ba_3
  have va_4 := keep1 hb va_3
  have Sa_4 := Lib.hid ((Sa_3.out.below hb).call hb.size)
  have HB_4 : Hid (Below w.heap.size w w4) := Lib.hid (HB_3.out.trans (hb.mono HB_3.out.size))
  clear hb  ba_3 va_3 Sa_3 HB_3
  by_cases h0 : r < 0
  · skip
    go_wp2_with fail
    refine (specRestIn_v dsa ba xa _ _ _ _ Sa_4.out HR.out).mono ?_
    rintro e w5 ⟨rfl, hb⟩
    have ba_5 := keep1 hb ba_4
    have va_5 := keep1 hb va_4
    have Sa_5 := Lib.hid ((Sa_4.out.below hb).call hb.size)
    have HB_5 : Hid (Below w.heap.size w w5) := Lib.hid (HB_4.out.trans (hb.mono HB_4.out.size))
    clear hb  ba_4 va_4 Sa_4 HB_4
    go_wp2
    go_ret
    exact ⟨rfl, HB_5.out⟩
  have hvx : mIsV dsa ba xa = true := by
    cases h : mIsV dsa ba xa
    · exact absurd (by rw [← HR.out]; unfold mRestIn; rw [h, if_neg (by decide)]; decide) h0
    · rfl
  obtain ⟨p, rfl, hp⟩ := mIsV_nat hvx
  have HVp := Lib.hid hvx
  have HFL := Lib.hid (mIsV_flag hvx)
  obtain ⟨o, qo⟩ : ∃ o, nl p (mMask (mSg dsa)) = o := ⟨_, rfl⟩
  obtain rfl : r = (o : Int) := by rw [← HR.out]; exact rest_is HVp.out qo
  have ho4 : o < 4096 := by rw [← qo]; exact nl_lt hp
  have hV3 : mIsV dsa 3 (o : Nat) = true := mIsV_of (vFlag_3 HFL.out) ho4 (.inl rfl)
  have hVp3 : mIsV dsa 3 (p : Nat) = true := mIsV_of (vFlag_3 HFL.out) hp (.inl rfl)
  have hnm : mNamesIn dsa 3 (o : Nat) = [] := by unfold mNamesIn; rw [hV3, if_pos rfl, Int.toNat_natCast, ← qo, rest_in]; rfl
  have HNI : Hid (∀ (A : Option Addr) (n c : Nat) (w : World), SD w w.heap.size A n c dsa → n ≤ 1048576 → Calls Try.prog 16 #[.agg #[.slice A n c, .int .i64 3], .int .i64 o] w (StrsP [] w)) := Lib.hid (by rw [← hnm]; exact fun A n c w h hn => implNamesIn_any dsa 3 o A n c w h hn)
  have HRR : Hid (mRestIn dsa 3 (o : Nat) = (o : Int)) := Lib.hid (rest_is hV3 (by rw [← qo]; exact rest_rest _ _))
  have HH : Hid (mHas dsa 3 (p : Nat) (o : Nat) = true) := Lib.hid (has_is hVp3 hV3 (decide_eq_true (by rw [← qo]; exact bl3 _ _)))
  clear hvx qo hV3 hVp3 hnm h0
  go_wp2_with fail
  refine (kept_any dsa ba _ _ _ _ Sa_4.out (by omega) HFL.out).mono ?_
  rintro e w5 ⟨Ak, ck, rfl, ho2, hb⟩
  have ba_5 := keep1 hb ba_4
  have va_5 := keep1 hb va_4
  have Sa_5 := Lib.hid ((Sa_4.out.below hb).call hb.size)
  have HB_5 : Hid (Below w.heap.size w w5) := Lib.hid (HB_4.out.trans (hb.mono HB_4.out.size))
  have Sk_5 := Lib.hid (sd_of_own ho2 HOKa.out)
  clear ho2
  clear hb  ba_4 va_4 Sa_4 HB_4
  go_wp2_with fail
  refine (HNI.out _ _ _ _ Sk_5.out (by omega)).mono ?_
  rintro e w6 ⟨An, cn, rfl, ho, hb⟩
  have ba_6 := keep1 hb ba_5
  have va_6 := keep1 hb va_5
  have Sa_6 := Lib.hid ((Sa_5.out.below hb).call hb.size)
  have Sk_6 := Lib.hid ((Sk_5.out.below hb).call hb.size)
  have HB_6 : Hid (Below w.heap.size w w6) := Lib.hid (HB_5.out.trans (hb.mono HB_5.out.size))
  clear ho
  clear hb  ba_5 va_5 Sa_5 Sk_5 HB_5
  go_wp2_with fail
  refine (kept_any dsa ba _ _ _ _ Sa_6.out (by omega) HFL.out).mono ?_
  rintro e w7 ⟨Al, cl, rfl, ho2, hb⟩
  have ba_7 := keep1 hb ba_6
  have va_7 := keep1 hb va_6
  have Sa_7 := Lib.hid ((Sa_6.out.below hb).call hb.size)
  have Sk_7 := Lib.hid ((Sk_6.out.below hb).call hb.size)
  have HB_7 : Hid (Below w.heap.size w w7) := Lib.hid (HB_6.out.trans (hb.mono HB_6.out.size))
  have Sl_7 := Lib.hid (sd_of_own ho2 HOKa.out)
  clear ho2
  clear hb  ba_6 va_6 Sa_6 Sk_6 HB_6
  go_wp2_with fail
  refine (implRestIn_v dsa 3 o _ _ _ _ Sl_7.out (by omega) HRR.out).mono ?_
  rintro e w8 ⟨rfl, hb⟩
  have ba_8 := keep1 hb ba_7
  have va_8 := keep1 hb va_7
  have Sa_8 := Lib.hid ((Sa_7.out.below hb).call hb.size)
  have Sk_8 := Lib.hid ((Sk_7.out.below hb).call hb.size)
  have Sl_8 := Lib.hid ((Sl_7.out.below hb).call hb.size)
  have HB_8 : Hid (Below w.heap.size w w8) := Lib.hid (HB_7.out.trans (hb.mono HB_7.out.size))
  clear hb  ba_7 va_7 Sa_7 Sk_7 Sl_7 HB_7
  go_wp2_with fail
  refine (kept_any dsa ba _ _ _ _ Sa_8.out (by omega) HFL.out).mono ?_
  rintro e w9 ⟨Am, cm, rfl, ho2, hb⟩
  have ba_9 := keep1 hb ba_8
  have va_9 := keep1 hb va_8
  have Sa_9 := Lib.hid ((Sa_8.out.below hb).call hb.size)
  have Sk_9 := Lib.hid ((Sk_8.out.below hb).call hb.size)
  have Sl_9 := Lib.hid ((Sl_8.out.below hb).call hb.size)
  have HB_9 : Hid (Below w.heap.size w w9) := Lib.hid (HB_8.out.trans (hb.mono HB_8.out.size))
  have Sm_9 := Lib.hid (sd_of_own ho2 HOKa.out)
  clear ho2
  clear hb  ba_8 va_8 Sa_8 Sk_8 Sl_8 HB_8
  go_wp2_with fail
  refine (implHas_v dsa 3 p o _ _ _ _ Sm_9.out (by omega) HH.out).mono ?_
  rintro e w10 ⟨rfl, hb⟩
  have ba_10 := keep1 hb ba_9
  have va_10 := keep1 hb va_9
  have Sa_10 := Lib.hid ((Sa_9.out.below hb).call hb.size)
  have Sk_10 := Lib.hid ((Sk_9.out.below hb).call hb.size)
  have Sl_10 := Lib.hid ((Sl_9.out.below hb).call hb.size)
  have Sm_10 := Lib.hid ((Sm_9.out.below hb).call hb.size)
  have HB_10 : Hid (Below w.heap.size w w10) := Lib.hid (HB_9.out.trans (hb.mono HB_9.out.size))
  clear hb  ba_9 va_9 Sa_9 Sk_9 Sl_9 Sm_9 HB_9
  go_wp2
  go_ret
  exact ⟨rfl, HB_10.out⟩

theorem lifted (os : Os) (started : os.Started) (H : Type) (enc : TypeId × Value → H) :
    ReturnsInHanded {} Try.checked os 5 .any (Rows.fnRestInSpec.pre6 enc Try.prog Try.f5 Rows.fnRestInRow.domain false) (Rows.fnRestInSpec.post enc Try.prog Try.f5 false true false false) := by
  refine returnsInHanded_of_change (C := Try.checked) own started (by kernel_rfl) Try.func5
    (ChangeSpec.witness6 (enc := enc) (C := Try.checked) false ⟨#[], #[.slice none 0 0], []⟩ 8 (by kernel_rfl) (by kernel_rfl) (by kernel_rfl) (by kernel_rfl)) ?_
  intro W base args ds gs before hval0 hW hcnd _
  have hval : ∀ (j : Nat) t v, Try.f5.params[j]? = some t → args[j]? = some v → Value.okWide Try.prog W .any base t v := hval0
  have hW' := hW
  obtain ⟨p, q, hA0, hV, rfl, hfz, hnd⟩ := hW
  have hA : DataW.TrodAll enc Try.prog W 0 (fun _ => true) true Try.f5.params.toList args.toList ds p := hA0
  rw [Try.params5] at hA hval
  obtain ⟨v0, vs0, d0, ds0, p0, q0, hargs, rfl, rfl, h0, r0⟩ := trodAll_cons hA
  obtain ⟨rfl, rfl, rfl⟩ := trodAll_nil r0
  obtain rfl : args = #[v0] := by cases args; simp_all
  obtain ⟨rfl, rfl⟩ := trodVars_none hV
  have k0 := h0
  have lt0 : ∀ x ∈ p0, x.block < W.heap.size := by obtain ⟨m, hm⟩ := k0; exact DataW.trod_lt m _ _ _ hm
  obtain ⟨A0, n0, c0, l0, rfl, w0⟩ := open_code (hval 0 22 v0 rfl rfl) h0
  clear hA0 hval0
  refine (walk A0 n0 c0 l0 W w0).mono fun e W' ⟨he, bel⟩ => ?_
  subst he
  exact ⟨_, rfl, _, _, _, [], _, [], hW', trodAll_mk1 (shut_bool Try.underlying4 _), (trodAll_cons_mk (Below.trod laidOut (by kernel_rfl) (of_decide_eq_true (by kernel_rfl)) k0 bel lt0) trodAll_mk0), rfl, bel.frame _, fun h => by cases h⟩

theorem over : Rows.fnRestInRow.holds Try.pinned (OpenSpec.ofChange Rows.fnRestInSpec) :=
  OpenClaim.holds_of_wide 5 Try.f5 rfl rfl rfl rfl rfl rfl rfl ⟨rfl, rfl, rfl, rfl, rfl⟩ rfl rfl rfl rfl rfl (by kernel_rfl) Try.func5 (by kernel_rfl)
    (of_decide_eq_true (by kernel_rfl)) (by unfold Func.isWrapper; first | (rw [if_pos (by decide +kernel)]; kernel_rfl) | (rw [if_neg (by decide +kernel)]; exact ⟨rfl, rfl⟩))
    (fun os started H enc _ => lifted os started H enc)

theorem proved : Rows.FnRestInSaid := over
end Go.Proofs.Ytmahjggkiikmgaa.fnRestIn
