/-
For every code the law of high bits that are all below returns true.
Conditions: none.
-/
import Derived.Test.YtnaojafidhloeaaGenG
import Derived.Test.YtnaojafidhloeaaOpenC
import Derived.Test.YtnaojafidhloeaaLFlag
import Derived.Test.YtnaojafidhloeaaLAlg
import Derived.Test.YtnaojafidhloeaaAlgI
import Derived.Test.YtnaojafidhloeaaFlagM
import Derived.Test.YtnaojafidhloeaaFlagS
import Derived.Test.YtnaojafidhloeaaLKept
namespace Go.Proofs.Ytnaojafidhloeaa.fnHighOf
open Go.ChangeShapes Go.WideShapes Go.ChangeAt Go.RowKit
open Go.ChangeMaps (open_string shut_string)
set_option linter.unusedVariables false
set_option maxRecDepth 100000

set_option maxHeartbeats 16000000 in
theorem walk (A : Option Addr) (n c : Nat) (zs : List Int) (w : World) (h : SB w w.heap.size A n c zs) :
    Calls Try.prog 5 #[.slice A n c] w fun e w' => e = .returned (.bool true) ∧ Below w.heap.size w w' := by
  have hm := h.max
  have hcap := h.cap
  unfold maxLen at hm
  have HS0 := Lib.hid h
  clear h
  by_cases hbig : 1048576 < (n : Int)
  · go_enter Try.func5, Try.ntmps5
    go_wp2
    go_ret
    exact ⟨rfl, Below.refl _ _⟩
  go_enter Try.func5, Try.ntmps5
  go_wp2_with fail
  refine (drawHighOf_any A n c zs _ HS0.out).mono ?_
  rintro e w1 ⟨Aa, ca, dsa, ba, rfl, hna, hsma, hbda, hsa, hb⟩
  have HB_1 := Lib.hid hb
  have Sa_1 := Lib.hid hsa
  have HSMa := Lib.hid hsma
  have HOKa : Hid (∀ d ∈ dsa, d.ok) := Lib.hid (fun d hd => small_ok (hsma d hd))
  have HBDa := Lib.hid hbda
  clear hb hsa hsma hbda
  obtain ⟨w2, hw⟩ : ∃ W : World, W = (w1.alloc (.cells #[.slice Aa dsa.length ca, .int .i64 ba] 25)) := ⟨_, rfl⟩
  have hb : Below w1.heap.size w1 w2 := by rw [hw]; exact ((Below.refl _ _).alloc (by first | exact Nat.le_refl _ | (simp; done) | (simp; omega)) _)
  have Sa_2 := Lib.hid ((Sa_1.out.below hb).call hb.size)
  have HB_2 : Hid (Below w.heap.size w w2) := Lib.hid (HB_1.out.trans (hb.mono HB_1.out.size))
  have ba_2 : w2.cell? ⟨w1.heap.size, 0, none⟩ = some (.slice Aa dsa.length ca) := by rw [hw]; simp [go_sem]
  have va_2 : w2.cell? ⟨w1.heap.size, 1, none⟩ = some (.int .i64 ba) := by rw [hw]; simp [go_sem]
  have lf_ba : (w1.alloc (.cells #[.slice Aa dsa.length ca, .int .i64 ba] 25)).cell? ⟨w1.heap.size, 0, none⟩ = some (.slice Aa dsa.length ca) := by rw [← hw]; exact ba_2
  have lf_va : (w1.alloc (.cells #[.slice Aa dsa.length ca, .int .i64 ba] 25)).cell? ⟨w1.heap.size, 1, none⟩ = some (.int .i64 ba) := by rw [← hw]; exact va_2
  have HW2 : Hid ((w1.alloc (.cells #[.slice Aa dsa.length ca, .int .i64 ba] 25)) = w2) := Lib.hid hw.symm
  clear hb hw Sa_1 HB_1
  obtain ⟨r, hr⟩ : ∃ r, mHighOf dsa ba = r := ⟨_, rfl⟩
  have HR := Lib.hid hr
  clear hr
  go_wp2_with fail
  rw [HW2.out]
  clear lf_ba lf_va
  refine (implHighOf_v dsa ba _ _ _ _ Sa_2.out (by omega) HR.out).mono ?_
  rintro e w3 ⟨rfl, hb⟩
  have ba_3 := keep1 hb ba_2
  have va_3 := keep1 hb va_2
  have Sa_3 := Lib.hid ((Sa_2.out.below hb).call hb.size)
  have HB_3 : Hid (Below w.heap.size w w3) := Lib.hid (HB_2.out.trans (hb.mono HB_2.out.size))
  clear hb  ba_2 va_2 Sa_2 HB_2
  go_wp2_with fail
  refine (specHighOf_v dsa ba _ _ _ _ Sa_3.out HR.out).mono ?_
  rintro e w4 ⟨rfl, hb⟩
  have ba_4 := keep1 hb ba_3
  have va_4 := keep1 hb va_3
  have Sa_4 := Lib.hid ((Sa_3.out.below hb).call hb.size)
  have HB_4 : Hid (Below w.heap.size w w4) := Lib.hid (HB_3.out.trans (hb.mono HB_3.out.size))
  clear hb  ba_3 va_3 Sa_3 HB_3
  by_cases h0 : r < 0
  · skip
    go_wp2_with fail
    refine (specHighOf_v dsa ba _ _ _ _ Sa_4.out HR.out).mono ?_
    rintro e w5 ⟨rfl, hb⟩
    have ba_5 := keep1 hb ba_4
    have va_5 := keep1 hb va_4
    have Sa_5 := Lib.hid ((Sa_4.out.below hb).call hb.size)
    have HB_5 : Hid (Below w.heap.size w w5) := Lib.hid (HB_4.out.trans (hb.mono HB_4.out.size))
    clear hb  ba_4 va_4 Sa_4 HB_4
    go_wp2
    go_ret
    exact ⟨rfl, HB_5.out⟩
  have hv : vFlag dsa ba = true := by
    cases h : vFlag dsa ba
    · exact absurd (by rw [← HR.out]; unfold mHighOf; rw [h, if_neg (by decide)]; decide) h0
    · rfl
  have HFL := Lib.hid hv
  have hin := vFlag_in hv
  obtain ⟨m, qm⟩ : ∃ m, mMask dsa = m := ⟨_, rfl⟩
  obtain ⟨L, qL⟩ : ∃ L, blen m = L := ⟨_, rfl⟩
  obtain ⟨P2, qP⟩ : ∃ P2, 2 ^ L = P2 := ⟨_, rfl⟩
  have hm4 : m < 4096 := by rw [← qm]; exact mMask_lt12 hin
  have hL : L ≤ 12 := by rw [← qL]; exact (blen_iff m 12).1 hm4
  have hP1 : 1 ≤ P2 := by rw [← qP]; exact Nat.two_pow_pos _
  have hP2 : P2 ≤ 4096 := by rw [← qP]; exact Nat.pow_le_pow_right (n := 2) (by decide) hL
  have hmP : m < P2 := by rw [← qP, ← qL]; exact blen_lt m
  have hhi : mHigh dsa = P2 - 1 := by unfold mHigh mNb; rw [qm, qL, qP]
  obtain rfl : r = ((P2 - 1 : Nat) : Int) := by rw [← HR.out]; unfold mHighOf; rw [hv, if_pos rfl, hhi]
  have hm2 : m = 0 ∨ P2 ≤ 2 * m := by
    by_cases h : m = 0
    · exact .inl h
    · right
      have h1 : ¬ m < 2 ^ (L - 1) := by rw [blen_iff, qL]; unfold blen at qL; rw [if_neg h] at qL; omega
      have h2 : 0 < L := by unfold blen at qL; rw [if_neg h] at qL; omega
      have h3 : 2 ^ L = 2 * 2 ^ (L - 1) := by rw [← Nat.pow_succ']; congr 1; omega
      omega
  have hm0 : m = 0 → P2 = 1 := by intro h; rw [← qP, ← qL, h]; rfl
  have HV1 : Hid (mIsV dsa 3 ((P2 - 1 : Nat) : Int) = true) := Lib.hid (mIsV_of (vFlag_3 hv) (by omega) (.inl rfl))
  have HV2 : Hid (mIsV dsa 3 (m : Nat) = true) := Lib.hid (mIsV_of (vFlag_3 hv) hm4 (.inl rfl))
  have HH : Hid (mHas dsa 3 ((P2 - 1 : Nat) : Int) (m : Nat) = true) := Lib.hid (has_is HV1.out HV2.out (decide_eq_true (by
    rw [nl_zero]; intro i hi
    rw [← qP, Nat.testBit_two_pow_sub_one]
    have : 2 ^ i ≤ m := Nat.ge_two_pow_of_testBit hi
    have h5 : i < L := by
      by_cases h : i < L
      · exact h
      · have := Nat.pow_le_pow_right (n := 2) (by decide) (show L ≤ i by omega); omega
    simp [h5])))
  have HMK : Hid (mMaskOf dsa ba = (m : Int)) := Lib.hid (by rw [← qm]; exact if_yes hv)
  have QP := Lib.hid qP
  obtain ⟨h, hh⟩ : ∃ h, P2 - 1 = h := ⟨_, rfl⟩
  rw [hh] at HH
  have hcast : ((P2 - 1 : Nat) : Int) = (h : Int) := by rw [hh]
  rw [hh]
  clear hv hin qm qL qP hhi HV1 HV2 h0 hcast HR
  go_wp2_with fail
  refine (implMaskOf_v dsa ba _ _ _ _ Sa_4.out (by omega) HMK.out).mono ?_
  rintro e w5 ⟨rfl, hb⟩
  have ba_5 := keep1 hb ba_4
  have va_5 := keep1 hb va_4
  have Sa_5 := Lib.hid ((Sa_4.out.below hb).call hb.size)
  have HB_5 : Hid (Below w.heap.size w w5) := Lib.hid (HB_4.out.trans (hb.mono HB_4.out.size))
  clear hb  ba_4 va_4 Sa_4 HB_4
  go_wp2
  go_loop [6] (fun s => ∃ (j q : Nat), j ≤ L ∧ 1 ≤ q ∧ q ≤ 4096 ∧ s = .int .i64 q ∧ Hid (q = 2 ^ j)) (fun s => 4097 - (intOf s).toNat)
  case atStart => exact ⟨0, 1, Nat.zero_le _, by omega, by omega, rfl, Lib.hid rfl⟩
  case round =>
    obtain ⟨j, q, hj, hq1, hq2, rfl, hq⟩ := hrel
    by_cases hle : q ≤ h
    · have hjL : j + 1 ≤ L := by
        by_cases hc : j < L
        · exact hc
        · have e : j = L := by omega
          have := hq.out; have := QP.out; rw [e] at *; omega
      have HQ2 : Hid (q * 2 = 2 ^ (j + 1)) := Lib.hid (by rw [Nat.pow_succ, hq.out])
      have hq4 : q * 2 ≤ 4096 := by rw [HQ2.out]; exact Nat.pow_le_pow_right (n := 2) (by decide) (show j + 1 ≤ 12 by omega)
      have hle2 : (q : Int) ≤ (h : Int) := by omega
      go_wp2
      go_round
      case rel => exact ⟨j + 1, q * 2, hjL, by omega, hq4, by go_num, HQ2⟩
      case measure => simp [intOf]; omega
    · have hqP : q = P2 := by
        have h1 : 2 ^ j ≤ 2 ^ L := Nat.pow_le_pow_right (by decide) hj
        have := hq.out; have := QP.out; omega
      have hle2 : ¬ (q : Int) ≤ (h : Int) := by omega
      have e1 : ((q : Int) - 1 == (h : Int)) = true := by rw [beq_iff_eq]; omega
      go_wp2_with fail
      refine (kept_any dsa ba _ _ _ _ Sa_5.out (by omega) HFL.out).mono ?_
      rintro e w6 ⟨Ak, ck, rfl, ho, hb⟩
      have ba_6 := keep1 hb ba_5
      have va_6 := keep1 hb va_5
      have Sa_6 := Lib.hid ((Sa_5.out.below hb).call hb.size)
      have HB_6 : Hid (Below w.heap.size w w6) := Lib.hid (HB_5.out.trans (hb.mono HB_5.out.size))
      have Sk_6 := Lib.hid (sd_of_own ho HOKa.out)
      clear hb ho ba_5 va_5 Sa_5 HB_5
      go_wp2_with fail
      refine (implHas_v dsa 3 h m _ _ _ _ Sk_6.out (by omega) HH.out).mono ?_
      rintro e w7 ⟨rfl, hb⟩
      have ba_7 := keep1 hb ba_6
      have va_7 := keep1 hb va_6
      have Sa_7 := Lib.hid ((Sa_6.out.below hb).call hb.size)
      have Sk_7 := Lib.hid ((Sk_6.out.below hb).call hb.size)
      have HB_7 : Hid (Below w.heap.size w w7) := Lib.hid (HB_6.out.trans (hb.mono HB_6.out.size))
      clear hb  ba_6 va_6 Sa_6 Sk_6 HB_6
      rcases hm2 with h5 | h5
      · have h6 : h = 0 := by have := hm0 h5; omega
        subst h5
        subst h6
        go_wp2
        go_ret
        exact ⟨rfl, HB_7.out⟩
      · by_cases h7 : m = 0
        · exfalso; have := hm0 h7; omega
        · have e3 : ((m : Int) == 0) = false := by rw [beq_eq_false_iff_ne]; omega
          have e4 : (h : Int) < 2 * (m : Int) := by omega
          go_wp2
          go_ret
          exact ⟨rfl, HB_7.out⟩

theorem lifted (os : Os) (started : os.Started) (H : Type) (enc : TypeId × Value → H) :
    ReturnsInHanded {} Try.checked os 5 .any (Rows.fnHighOfSpec.pre6 enc Try.prog Try.f5 Rows.fnHighOfRow.domain false) (Rows.fnHighOfSpec.post enc Try.prog Try.f5 false true false false) := by
  refine returnsInHanded_of_change (C := Try.checked) own started (by kernel_rfl) Try.func5
    (ChangeSpec.witness6 (enc := enc) (C := Try.checked) false ⟨#[], #[.slice none 0 0], []⟩ 8 (by kernel_rfl) (by kernel_rfl) (by kernel_rfl) (by kernel_rfl)) ?_
  intro W base args ds gs before hval0 hW hcnd _
  have hval : ∀ (j : Nat) t v, Try.f5.params[j]? = some t → args[j]? = some v → Value.okWide Try.prog W .any base t v := hval0
  have hW' := hW
  obtain ⟨p, q, hA0, hV, rfl, hfz, hnd⟩ := hW
  have hA : DataW.TrodAll enc Try.prog W 0 (fun _ => true) true Try.f5.params.toList args.toList ds p := hA0
  rw [Try.params5] at hA hval
  obtain ⟨v0, vs0, d0, ds0, p0, q0, hargs, rfl, rfl, h0, r0⟩ := trodAll_cons hA
  obtain ⟨rfl, rfl, rfl⟩ := trodAll_nil r0
  obtain rfl : args = #[v0] := by cases args; simp_all
  obtain ⟨rfl, rfl⟩ := trodVars_none hV
  have k0 := h0
  have lt0 : ∀ x ∈ p0, x.block < W.heap.size := by obtain ⟨m, hm⟩ := k0; exact DataW.trod_lt m _ _ _ hm
  obtain ⟨A0, n0, c0, l0, rfl, w0⟩ := open_code (hval 0 22 v0 rfl rfl) h0
  clear hA0 hval0
  refine (walk A0 n0 c0 l0 W w0).mono fun e W' ⟨he, bel⟩ => ?_
  subst he
  exact ⟨_, rfl, _, _, _, [], _, [], hW', trodAll_mk1 (shut_bool Try.underlying4 _), (trodAll_cons_mk (Below.trod laidOut (by kernel_rfl) (of_decide_eq_true (by kernel_rfl)) k0 bel lt0) trodAll_mk0), rfl, bel.frame _, fun h => by cases h⟩

theorem over : Rows.fnHighOfRow.holds Try.pinned (OpenSpec.ofChange Rows.fnHighOfSpec) :=
  OpenClaim.holds_of_wide 5 Try.f5 rfl rfl rfl rfl rfl rfl rfl ⟨rfl, rfl, rfl, rfl, rfl⟩ rfl rfl rfl rfl rfl (by kernel_rfl) Try.func5 (by kernel_rfl)
    (of_decide_eq_true (by kernel_rfl)) (by unfold Func.isWrapper; first | (rw [if_pos (by decide +kernel)]; kernel_rfl) | (rw [if_neg (by decide +kernel)]; exact ⟨rfl, rfl⟩))
    (fun os started H enc _ => lifted os started H enc)

theorem proved : Rows.FnHighOfSaid := over
end Go.Proofs.Ytnaojafidhloeaa.fnHighOf
