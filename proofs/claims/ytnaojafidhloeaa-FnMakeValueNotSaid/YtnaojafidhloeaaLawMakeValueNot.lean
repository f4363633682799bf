/-
For every code the law of numbers below 0 that are inverted returns true.
Conditions: none.
-/
import Derived.Test.YtnaojafidhloeaaGenG
import Derived.Test.YtnaojafidhloeaaOpenC
import Derived.Test.YtnaojafidhloeaaLFlag
import Derived.Test.YtnaojafidhloeaaLAlg
import Derived.Test.YtnaojafidhloeaaAlgI
import Derived.Test.YtnaojafidhloeaaFlagT
namespace Go.Proofs.Ytnaojafidhloeaa.fnMakeValueNot
open Go.ChangeShapes Go.WideShapes Go.ChangeAt Go.RowKit
open Go.ChangeMaps (open_string shut_string)
set_option linter.unusedVariables false
set_option maxRecDepth 100000

set_option maxHeartbeats 16000000 in
theorem walk (A : Option Addr) (n c : Nat) (zs : List Int) (w : World) (h : SB w w.heap.size A n c zs) :
    Calls Try.prog 6 #[.slice A n c] w fun e w' => e = .returned (.bool true) ∧ Below w.heap.size w w' := by
  have hm := h.max
  have hcap := h.cap
  unfold maxLen at hm
  have HS0 := Lib.hid h
  clear h
  by_cases hbig : 1048576 < (n : Int)
  · go_enter Try.func6, Try.ntmps6
    go_wp2
    go_ret
    exact ⟨rfl, Below.refl _ _⟩
  go_enter Try.func6, Try.ntmps6
  go_wp2_with fail
  refine (drawMakeValue_any A n c zs _ HS0.out).mono ?_
  rintro e w1 ⟨Aa, ca, dsa, ba, nb, rfl, hna, hsma, hbda, hnb, hsa, hb⟩
  have HB_1 := Lib.hid hb
  have Sa_1 := Lib.hid hsa
  have HSMa := Lib.hid hsma
  have HOKa : Hid (∀ d ∈ dsa, d.ok) := Lib.hid (fun d hd => small_ok (hsma d hd))
  have HBDa := Lib.hid hbda
  clear hb hsa hsma hbda
  obtain ⟨w2, hw⟩ : ∃ W : World, W = (w1.alloc (.cells #[.slice Aa dsa.length ca, .int .i64 ba] 25)) := ⟨_, rfl⟩
  have hb : Below w1.heap.size w1 w2 := by rw [hw]; exact ((Below.refl _ _).alloc (by first | exact Nat.le_refl _ | (simp; done) | (simp; omega)) _)
  have Sa_2 := Lib.hid ((Sa_1.out.below hb).call hb.size)
  have HB_2 : Hid (Below w.heap.size w w2) := Lib.hid (HB_1.out.trans (hb.mono HB_1.out.size))
  have ba_2 : w2.cell? ⟨w1.heap.size, 0, none⟩ = some (.slice Aa dsa.length ca) := by rw [hw]; simp [go_sem]
  have va_2 : w2.cell? ⟨w1.heap.size, 1, none⟩ = some (.int .i64 ba) := by rw [hw]; simp [go_sem]
  have lf_ba : (w1.alloc (.cells #[.slice Aa dsa.length ca, .int .i64 ba] 25)).cell? ⟨w1.heap.size, 0, none⟩ = some (.slice Aa dsa.length ca) := by rw [← hw]; exact ba_2
  have lf_va : (w1.alloc (.cells #[.slice Aa dsa.length ca, .int .i64 ba] 25)).cell? ⟨w1.heap.size, 1, none⟩ = some (.int .i64 ba) := by rw [← hw]; exact va_2
  have HW2 : Hid ((w1.alloc (.cells #[.slice Aa dsa.length ca, .int .i64 ba] 25)) = w2) := Lib.hid hw.symm
  clear hb hw Sa_1 HB_1
  obtain ⟨x, hx⟩ : ∃ x, (mValue dsa ba nb).1 = x := ⟨_, rfl⟩
  obtain ⟨y, hy⟩ : ∃ y, (mValue dsa ba nb).2 = y := ⟨_, rfl⟩
  obtain ⟨v, hv⟩ : ∃ v, mIsV dsa ba nb = v := ⟨_, rfl⟩
  have HX := Lib.hid hx
  have HY := Lib.hid hy
  have HV := Lib.hid hv
  clear hx hy hv
  go_wp2_with fail
  rw [HW2.out]
  clear lf_ba lf_va
  refine (implMake_v dsa ba nb _ _ _ _ Sa_2.out (by omega) HX.out HY.out).mono ?_
  rintro e w3 ⟨rfl, hb⟩
  have ba_3 := keep1 hb ba_2
  have va_3 := keep1 hb va_2
  have Sa_3 := Lib.hid ((Sa_2.out.below hb).call hb.size)
  have HB_3 : Hid (Below w.heap.size w w3) := Lib.hid (HB_2.out.trans (hb.mono HB_2.out.size))
  clear hb  ba_2 va_2 Sa_2 HB_2
  go_wp2_with fail
  refine (specMake_v dsa ba nb _ _ _ _ Sa_3.out HX.out HY.out).mono ?_
  rintro e w4 ⟨rfl, hb⟩
  have ba_4 := keep1 hb ba_3
  have va_4 := keep1 hb va_3
  have Sa_4 := Lib.hid ((Sa_3.out.below hb).call hb.size)
  have HB_4 : Hid (Below w.heap.size w w4) := Lib.hid (HB_3.out.trans (hb.mono HB_3.out.size))
  clear hb  ba_3 va_3 Sa_3 HB_3
  go_wp2_with fail
  refine (implIsV_v dsa ba nb _ _ _ _ Sa_4.out (by omega) HV.out).mono ?_
  rintro e w5 ⟨rfl, hb⟩
  have ba_5 := keep1 hb ba_4
  have va_5 := keep1 hb va_4
  have Sa_5 := Lib.hid ((Sa_4.out.below hb).call hb.size)
  have HB_5 : Hid (Below w.heap.size w w5) := Lib.hid (HB_4.out.trans (hb.mono HB_4.out.size))
  clear hb  ba_4 va_4 Sa_4 HB_4
  cases v
  · skip
    go_wp2
    go_ret
    exact ⟨rfl, HB_5.out⟩
  obtain ⟨p, rfl, hp⟩ := mIsV_nat HV.out
  obtain ⟨wh, qw⟩ : ∃ wh, mWhole dsa ba = wh := ⟨_, rfl⟩
  obtain ⟨z, qz⟩ : ∃ z, nl wh p = z := ⟨_, rfl⟩
  have hin : inV (-1 - (p : Int)) = true := by unfold inV; simp; omega
  have hval : mValue dsa ba (-1 - (p : Int)) = ((z : Int), 0) := by
    unfold mValue
    rw [mIsV_flag HV.out, hin, Bool.and_self, if_pos rfl, mMade_neg (by omega), qw, show -(-1 - (p : Int)) - 1 = (p : Int) by omega, Int.toNat_natCast, qz]
  have H1 : Hid ((mValue dsa ba (-1 - (p : Int))).1 = (z : Int)) := Lib.hid (by rw [hval])
  have H2 : Hid ((mValue dsa ba (-1 - (p : Int))).2 = 0) := Lib.hid (by rw [hval])
  have H3 : Hid (mInv dsa ba (p : Nat) = (z : Int)) := Lib.hid (inv_is HV.out (by rw [qw, qz]))
  clear qw qz hval hin
  go_wp2_with fail
  refine (implMake_v dsa ba (-1 - (p : Int)) _ _ _ _ Sa_5.out (by omega) H1.out H2.out).mono ?_
  rintro e w6 ⟨rfl, hb⟩
  have ba_6 := keep1 hb ba_5
  have va_6 := keep1 hb va_5
  have Sa_6 := Lib.hid ((Sa_5.out.below hb).call hb.size)
  have HB_6 : Hid (Below w.heap.size w w6) := Lib.hid (HB_5.out.trans (hb.mono HB_5.out.size))
  clear hb  ba_5 va_5 Sa_5 HB_5
  go_wp2_with fail
  refine (implInv_v dsa ba p _ _ _ _ Sa_6.out (by omega) H3.out).mono ?_
  rintro e w7 ⟨rfl, hb⟩
  have ba_7 := keep1 hb ba_6
  have va_7 := keep1 hb va_6
  have Sa_7 := Lib.hid ((Sa_6.out.below hb).call hb.size)
  have HB_7 : Hid (Below w.heap.size w w7) := Lib.hid (HB_6.out.trans (hb.mono HB_6.out.size))
  clear hb  ba_6 va_6 Sa_6 HB_6
  go_wp2
  go_ret
  exact ⟨rfl, HB_7.out⟩

theorem lifted (os : Os) (started : os.Started) (H : Type) (enc : TypeId × Value → H) :
    ReturnsInHanded {} Try.checked os 6 .any (Rows.fnMakeValueNotSpec.pre6 enc Try.prog Try.f6 Rows.fnMakeValueNotRow.domain false) (Rows.fnMakeValueNotSpec.post enc Try.prog Try.f6 false true false false) := by
  refine returnsInHanded_of_change (C := Try.checked) own started (by kernel_rfl) Try.func6
    (ChangeSpec.witness6 (enc := enc) (C := Try.checked) false ⟨#[], #[.slice none 0 0], []⟩ 8 (by kernel_rfl) (by kernel_rfl) (by kernel_rfl) (by kernel_rfl)) ?_
  intro W base args ds gs before hval0 hW hcnd _
  have hval : ∀ (j : Nat) t v, Try.f6.params[j]? = some t → args[j]? = some v → Value.okWide Try.prog W .any base t v := hval0
  have hW' := hW
  obtain ⟨p, q, hA0, hV, rfl, hfz, hnd⟩ := hW
  have hA : DataW.TrodAll enc Try.prog W 0 (fun _ => true) true Try.f6.params.toList args.toList ds p := hA0
  rw [Try.params6] at hA hval
  obtain ⟨v0, vs0, d0, ds0, p0, q0, hargs, rfl, rfl, h0, r0⟩ := trodAll_cons hA
  obtain ⟨rfl, rfl, rfl⟩ := trodAll_nil r0
  obtain rfl : args = #[v0] := by cases args; simp_all
  obtain ⟨rfl, rfl⟩ := trodVars_none hV
  have k0 := h0
  have lt0 : ∀ x ∈ p0, x.block < W.heap.size := by obtain ⟨m, hm⟩ := k0; exact DataW.trod_lt m _ _ _ hm
  obtain ⟨A0, n0, c0, l0, rfl, w0⟩ := open_code (hval 0 22 v0 rfl rfl) h0
  clear hA0 hval0
  refine (walk A0 n0 c0 l0 W w0).mono fun e W' ⟨he, bel⟩ => ?_
  subst he
  exact ⟨_, rfl, _, _, _, [], _, [], hW', trodAll_mk1 (shut_bool Try.underlying4 _), (trodAll_cons_mk (Below.trod laidOut (by kernel_rfl) (of_decide_eq_true (by kernel_rfl)) k0 bel lt0) trodAll_mk0), rfl, bel.frame _, fun h => by cases h⟩

theorem over : Rows.fnMakeValueNotRow.holds Try.pinned (OpenSpec.ofChange Rows.fnMakeValueNotSpec) :=
  OpenClaim.holds_of_wide 6 Try.f6 rfl rfl rfl rfl rfl rfl rfl ⟨rfl, rfl, rfl, rfl, rfl⟩ rfl rfl rfl rfl rfl (by kernel_rfl) Try.func6 (by kernel_rfl)
    (of_decide_eq_true (by kernel_rfl)) (by unfold Func.isWrapper; first | (rw [if_pos (by decide +kernel)]; kernel_rfl) | (rw [if_neg (by decide +kernel)]; exact ⟨rfl, rfl⟩))
    (fun os started H enc _ => lifted os started H enc)

theorem proved : Rows.FnMakeValueNotSaid := over
end Go.Proofs.Ytnaojafidhloeaa.fnMakeValueNot
