/-
For every code the law of values that have named bits returns true: the program's IsValue answers as its model, holds for all numbers up to MaxFlag with BdKeep, and otherwise exactly for parts of the mask.
Conditions: none.
-/
import Derived.Test.YtbkfagncoekbkaaGenW
import Derived.Test.YtbkfagncoekbkaaOpenC
import Derived.Test.YtbkfagncoekbkaaLFlag
import Derived.Test.YtbkfagncoekbkaaLAlg
import Derived.Test.YtbkfagncoekbkaaAlgI
import Derived.Test.YtbkfagncoekbkaaFlagT
import Derived.Test.YtbkfagncoekbkaaLKept
import Derived.Test.YtbkfagncoekbkaaLSpc
namespace Go.Proofs.Ytbkfagncoekbkaa.fnIsValue
open Go.ChangeShapes Go.WideShapes Go.ChangeAt Go.RowKit
open Go.ChangeMaps (open_string shut_string)
set_option linter.unusedVariables false
set_option maxRecDepth 100000

set_option maxHeartbeats 16000000 in
theorem walk (A : Option Addr) (n c : Nat) (zs : List Int) (w : World) (h : SB w w.heap.size A n c zs) :
    Calls Try.prog 8 #[.slice A n c] w fun e w' => e = .returned (.bool true) ∧ Below w.heap.size w w' := by
  have hm := h.max
  have hcap := h.cap
  unfold maxLen at hm
  have HS0 := Lib.hid h
  clear h
  by_cases hbig : 1048576 < (n : Int)
  · go_enter Try.func8, Try.ntmps8
    go_wp2
    go_ret
    exact ⟨rfl, Below.refl _ _⟩
  go_enter Try.func8, Try.ntmps8
  go_wp2_with fail
  refine (drawIsValue_any A n c zs _ HS0.out).mono ?_
  rintro e w1 ⟨Aa, ca, dsa, ba, xa, rfl, hna, hsma, hbda, hxa, hsa, hb⟩
  have HB_1 := Lib.hid hb
  have Sa_1 := Lib.hid hsa
  have HSMa := Lib.hid hsma
  have HOKa : Hid (∀ d ∈ dsa, d.ok) := Lib.hid (fun d hd => small_ok (hsma d hd))
  have HBDa := Lib.hid hbda
  clear hb hsa hsma hbda
  obtain ⟨w2, hw⟩ : ∃ W : World, W = (w1.alloc (.cells #[.slice Aa dsa.length ca, .int .i64 ba] 25)) := ⟨_, rfl⟩
  have hb : Below w1.heap.size w1 w2 := by rw [hw]; exact ((Below.refl _ _).alloc (by first | exact Nat.le_refl _ | (simp; done) | (simp; omega)) _)
  have Sa_2 := Lib.hid ((Sa_1.out.below hb).call hb.size)
  have HB_2 : Hid (Below w.heap.size w w2) := Lib.hid (HB_1.out.trans (hb.mono HB_1.out.size))
  have ba_2 : w2.cell? ⟨w1.heap.size, 0, none⟩ = some (.slice Aa dsa.length ca) := by rw [hw]; simp [go_sem]
  have va_2 : w2.cell? ⟨w1.heap.size, 1, none⟩ = some (.int .i64 ba) := by rw [hw]; simp [go_sem]
  have lf_ba : (w1.alloc (.cells #[.slice Aa dsa.length ca, .int .i64 ba] 25)).cell? ⟨w1.heap.size, 0, none⟩ = some (.slice Aa dsa.length ca) := by rw [← hw]; exact ba_2
  have lf_va : (w1.alloc (.cells #[.slice Aa dsa.length ca, .int .i64 ba] 25)).cell? ⟨w1.heap.size, 1, none⟩ = some (.int .i64 ba) := by rw [← hw]; exact va_2
  have HW2 : Hid ((w1.alloc (.cells #[.slice Aa dsa.length ca, .int .i64 ba] 25)) = w2) := Lib.hid hw.symm
  clear hb hw Sa_1 HB_1
  obtain ⟨v, hv⟩ : ∃ v, mIsV dsa ba xa = v := ⟨_, rfl⟩
  obtain ⟨vf, hvf⟩ : ∃ vf, vFlag dsa ba = vf := ⟨_, rfl⟩
  have HV := Lib.hid hv
  have HF := Lib.hid hvf
  clear hv hvf
  go_wp2_with fail
  rw [HW2.out]
  clear lf_ba lf_va
  refine (implIsV_v dsa ba xa _ _ _ _ Sa_2.out (by omega) HV.out).mono ?_
  rintro e w3 ⟨rfl, hb⟩
  have ba_3 := keep1 hb ba_2
  have va_3 := keep1 hb va_2
  have Sa_3 := Lib.hid ((Sa_2.out.below hb).call hb.size)
  have HB_3 : Hid (Below w.heap.size w w3) := Lib.hid (HB_2.out.trans (hb.mono HB_2.out.size))
  clear hb  ba_2 va_2 Sa_2 HB_2
  go_wp2_with fail
  refine (specIsV_w dsa ba xa _ _ _ _ Sa_3.out HV.out).mono ?_
  rintro e w4 ⟨rfl, hb⟩
  have ba_4 := keep1 hb ba_3
  have va_4 := keep1 hb va_3
  have Sa_4 := Lib.hid ((Sa_3.out.below hb).call hb.size)
  have HB_4 : Hid (Below w.heap.size w w4) := Lib.hid (HB_3.out.trans (hb.mono HB_3.out.size))
  clear hb  ba_3 va_3 Sa_3 HB_3
  go_wp2_with fail
  refine (implVF_v dsa ba _ _ _ _ Sa_4.out (by omega) HF.out).mono ?_
  rintro e w5 ⟨rfl, hb⟩
  have ba_5 := keep1 hb ba_4
  have va_5 := keep1 hb va_4
  have Sa_5 := Lib.hid ((Sa_4.out.below hb).call hb.size)
  have HB_5 : Hid (Below w.heap.size w w5) := Lib.hid (HB_4.out.trans (hb.mono HB_4.out.size))
  clear hb  ba_4 va_4 Sa_4 HB_4
  cases vf
  · skip
    go_wp2_with fail
    refine (specIsV_w dsa ba xa _ _ _ _ Sa_5.out HV.out).mono ?_
    rintro e w6 ⟨rfl, hb⟩
    have ba_6 := keep1 hb ba_5
    have va_6 := keep1 hb va_5
    have Sa_6 := Lib.hid ((Sa_5.out.below hb).call hb.size)
    have HB_6 : Hid (Below w.heap.size w w6) := Lib.hid (HB_5.out.trans (hb.mono HB_5.out.size))
    clear hb  ba_5 va_5 Sa_5 HB_5
    go_wp2
    go_ret
    exact ⟨rfl, HB_6.out⟩
  by_cases h1 : xa < 0
  · skip
    go_wp2_with fail
    refine (specIsV_w dsa ba xa _ _ _ _ Sa_5.out HV.out).mono ?_
    rintro e w6 ⟨rfl, hb⟩
    have ba_6 := keep1 hb ba_5
    have va_6 := keep1 hb va_5
    have Sa_6 := Lib.hid ((Sa_5.out.below hb).call hb.size)
    have HB_6 : Hid (Below w.heap.size w w6) := Lib.hid (HB_5.out.trans (hb.mono HB_5.out.size))
    clear hb  ba_5 va_5 Sa_5 HB_5
    go_wp2
    go_ret
    exact ⟨rfl, HB_6.out⟩
  by_cases h2 : 4095 < xa
  · skip
    go_wp2_with fail
    refine (specIsV_w dsa ba xa _ _ _ _ Sa_5.out HV.out).mono ?_
    rintro e w6 ⟨rfl, hb⟩
    have ba_6 := keep1 hb ba_5
    have va_6 := keep1 hb va_5
    have Sa_6 := Lib.hid ((Sa_5.out.below hb).call hb.size)
    have HB_6 : Hid (Below w.heap.size w w6) := Lib.hid (HB_5.out.trans (hb.mono HB_5.out.size))
    clear hb  ba_5 va_5 Sa_5 HB_5
    go_wp2
    go_ret
    exact ⟨rfl, HB_6.out⟩
  obtain ⟨q, rfl⟩ : ∃ q : Nat, xa = q := ⟨xa.toNat, by omega⟩
  have hq : q < 4096 := by omega
  by_cases h3 : ba = 3
  · obtain rfl : v = true := by rw [← HV.out]; exact mIsV_of HF.out hq (.inl h3)
    go_wp2
    go_ret
    exact ⟨rfl, HB_5.out⟩
  obtain ⟨m, qm⟩ : ∃ m, mMask dsa = m := ⟨_, rfl⟩
  have hm : m < 4096 := by rw [← qm]; exact mMask_lt12 (vFlag_in HF.out)
  have HMK : Hid (mMaskOf dsa ba = (m : Int)) := Lib.hid (by rw [← qm]; exact if_yes HF.out)
  have HH : Hid (mHas dsa 3 (m : Nat) (q : Nat) = v) := Lib.hid (by
    refine has_is (mIsV_of (vFlag_3 HF.out) hm (.inl rfl)) (mIsV_of (vFlag_3 HF.out) hq (.inl rfl)) ?_
    rw [← HV.out, ← qm]
    unfold mIsV
    rw [HF.out, decide_eq_false h3, decide_eq_true (show (0 : Int) ≤ (q : Int) by omega), decide_eq_true (show (q : Int) ≤ 4095 by omega), Int.toNat_natCast]
    rfl)
  clear qm
  go_wp2_with fail
  go_region_held3 (fun w' => w'.cell? ⟨w1.heap.size, 0, none⟩ = some (.slice Aa dsa.length ca) ∧ w'.cell? ⟨w1.heap.size, 1, none⟩ = some (.int .i64 ba))
    (first | go_keep | exact ⟨ba_5, va_5⟩ | exact ⟨ba_6, va_6⟩ | exact ⟨ba_7, va_7⟩ | exact ⟨ba_8, va_8⟩)
    (first
      | (go_at_call 24; refine (kept_any dsa ba _ _ _ _ (Sa_5.out.drewN 1) (by omega) HF.out).mono ?_; rintro e w6 ⟨Ak, ck, rfl, ho2, hb⟩; replace hb : Below w5.heap.size w5 w6 := (by first | exact hb | exact undrew hb); have ba_6 := keep1 hb ba_5; have va_6 := keep1 hb va_5; have Sa_6 := Lib.hid ((Sa_5.out.below hb).call hb.size); have HB_6 : Hid (Below w.heap.size w w6) := Lib.hid (HB_5.out.trans (hb.mono HB_5.out.size)); have Sk_6 := Lib.hid (sd_of_own ho2 HOKa.out); clear hb)
      | (go_at_call 31; refine (implMaskOf_v dsa ba _ _ _ _ Sa_6.out (by omega) HMK.out).mono ?_; rintro e w7 ⟨rfl, hb⟩; have ba_7 := keep1 hb ba_6; have va_7 := keep1 hb va_6; have Sa_7 := Lib.hid ((Sa_6.out.below hb).call hb.size); have Sk_7 := Lib.hid ((Sk_6.out.below hb).call hb.size); have HB_7 : Hid (Below w.heap.size w w7) := Lib.hid (HB_6.out.trans (hb.mono HB_6.out.size)); clear hb)
      | (go_at_call 43; refine (implHas_v dsa 3 m q _ _ _ _ Sk_7.out (by omega) HH.out).mono ?_; rintro e w8 ⟨rfl, hb⟩; have ba_8 := keep1 hb ba_7; have va_8 := keep1 hb va_7; have Sa_8 := Lib.hid ((Sa_7.out.below hb).call hb.size); have Sk_8 := Lib.hid ((Sk_7.out.below hb).call hb.size); have HB_8 : Hid (Below w.heap.size w w8) := Lib.hid (HB_7.out.trans (hb.mono HB_7.out.size)); clear hb))
  go_wp2
  go_ret
  exact ⟨rfl, HB_8.out⟩

theorem lifted (os : Os) (started : os.Started) (H : Type) (enc : TypeId × Value → H) :
    ReturnsInHanded {} Try.checked os 8 .any (Rows.fnIsValueSpec.pre6 enc Try.prog Try.f8 Rows.fnIsValueRow.domain false) (Rows.fnIsValueSpec.post enc Try.prog Try.f8 false true false false) := by
  refine returnsInHanded_of_change (C := Try.checked) own started (by kernel_rfl) Try.func8
    (ChangeSpec.witness6 (enc := enc) (C := Try.checked) false ⟨#[], #[.slice none 0 0], []⟩ 8 (by kernel_rfl) (by kernel_rfl) (by kernel_rfl) (by kernel_rfl)) ?_
  intro W base args ds gs before hval0 hW hcnd _
  have hval : ∀ (j : Nat) t v, Try.f8.params[j]? = some t → args[j]? = some v → Value.okWide Try.prog W .any base t v := hval0
  have hW' := hW
  obtain ⟨p, q, hA0, hV, rfl, hfz, hnd⟩ := hW
  have hA : DataW.TrodAll enc Try.prog W 0 (fun _ => true) true Try.f8.params.toList args.toList ds p := hA0
  rw [Try.params8] at hA hval
  obtain ⟨v0, vs0, d0, ds0, p0, q0, hargs, rfl, rfl, h0, r0⟩ := trodAll_cons hA
  obtain ⟨rfl, rfl, rfl⟩ := trodAll_nil r0
  obtain rfl : args = #[v0] := by cases args; simp_all
  obtain ⟨rfl, rfl⟩ := trodVars_none hV
  have k0 := h0
  have lt0 : ∀ x ∈ p0, x.block < W.heap.size := by obtain ⟨m, hm⟩ := k0; exact DataW.trod_lt m _ _ _ hm
  obtain ⟨A0, n0, c0, l0, rfl, w0⟩ := open_code (hval 0 22 v0 rfl rfl) h0
  clear hA0 hval0
  refine (walk A0 n0 c0 l0 W w0).mono fun e W' ⟨he, bel⟩ => ?_
  subst he
  exact ⟨_, rfl, _, _, _, [], _, [], hW', trodAll_mk1 (shut_bool Try.underlying4 _), (trodAll_cons_mk (Below.trod laidOut (by kernel_rfl) (of_decide_eq_true (by kernel_rfl)) k0 bel lt0) trodAll_mk0), rfl, bel.frame _, fun h => by cases h⟩

theorem over : Rows.fnIsValueRow.holds Try.pinned (OpenSpec.ofChange Rows.fnIsValueSpec) :=
  OpenClaim.holds_of_wide 8 Try.f8 rfl rfl rfl rfl rfl rfl rfl ⟨rfl, rfl, rfl, rfl, rfl⟩ rfl rfl rfl rfl rfl (by kernel_rfl) Try.func8 (by kernel_rfl)
    (of_decide_eq_true (by kernel_rfl)) (by unfold Func.isWrapper; first | (rw [if_pos (by decide +kernel)]; kernel_rfl) | (rw [if_neg (by decide +kernel)]; exact ⟨rfl, rfl⟩))
    (fun os started H enc _ => lifted os started H enc)

theorem proved : Rows.FnIsValueSaid := over
end Go.Proofs.Ytbkfagncoekbkaa.fnIsValue
