/-
For every code the law of members in sets returns true: the program's MembersIn answers as its model, and SetOf what it answers is the value.
Conditions: none.
-/
import Derived.Test.YtcbhfaijlmckbaaGenR
import Derived.Test.YtcbhfaijlmckbaaOpenC
import Derived.Test.YtcbhfaijlmckbaaLBase
import Derived.Test.YtcbhfaijlmckbaaLHelp
import Derived.Test.YtcbhfaijlmckbaaLConv
import Derived.Test.YtcbhfaijlmckbaaConvU
import Derived.Test.YtcbhfaijlmckbaaConvJ
namespace Go.Proofs.Ytcbhfaijlmckbaa.fnMembersIn
open Go.ChangeShapes Go.WideShapes Go.ChangeAt Go.RowKit
open Go.ChangeMaps (open_string shut_string)
set_option linter.unusedVariables false
set_option maxRecDepth 100000

set_option maxHeartbeats 16000000 in
theorem walk (A : Option Addr) (n c : Nat) (zs : List Int) (w : World) (h : SB w w.heap.size A n c zs) :
    Calls Try.prog 4 #[.slice A n c] w fun e w' => e = .returned (.bool true) ∧ Below w.heap.size w w' := by
  have hm := h.max
  have hcap := h.cap
  unfold maxLen at hm
  have HS0 := Lib.hid h
  clear h
  by_cases hbig : 1048576 < (n : Int)
  · go_enter Try.func4, Try.ntmps4
    go_wp2
    go_ret
    exact ⟨rfl, Below.refl _ _⟩
  go_enter Try.func4, Try.ntmps4
  go_wp2_with fail
  refine (drawMembersIn_any A n c zs _ HS0.out).mono ?_
  rintro e w1 ⟨Aa, ca, dsa, z, rfl, hz, hn, hsma, hsa, hb⟩
  have HB_1 := Lib.hid hb
  have Sa_1 := Lib.hid hsa
  have HSMa := Lib.hid hsma
  have HOKa : Hid (∀ d ∈ dsa, d.ok) := Lib.hid (fun d hd => small_ok (hsma d hd))
  clear hb hsa hsma
  obtain ⟨w2, hw⟩ : ∃ W : World, W = (w1.alloc (.cells #[.slice Aa dsa.length ca] 25)) := ⟨_, rfl⟩
  have hb : Below w1.heap.size w1 w2 := by rw [hw]; exact ((Below.refl _ _).alloc (by first | exact Nat.le_refl _ | (simp; done) | (simp; omega)) _)
  have Sa_2 := Lib.hid ((Sa_1.out.below hb).call hb.size)
  have HB_2 : Hid (Below w.heap.size w w2) := Lib.hid (HB_1.out.trans (hb.mono HB_1.out.size))
  have ba_2 : w2.cell? ⟨w1.heap.size, 0, none⟩ = some (.slice Aa dsa.length ca) := by rw [hw]; simp [go_sem]
  have lf_ba : (w1.alloc (.cells #[.slice Aa dsa.length ca] 25)).cell? ⟨w1.heap.size, 0, none⟩ = some (.slice Aa dsa.length ca) := by rw [← hw]; exact ba_2
  have HW2 : Hid ((w1.alloc (.cells #[.slice Aa dsa.length ca] 25)) = w2) := Lib.hid hw.symm
  clear hb hw Sa_1 HB_1
  have hml := memin_len dsa z
  have HIM : Hid (∀ (A : Option Addr) (n c : Nat) (w : World), SD w w.heap.size A n c dsa → Calls Try.prog 24 #[.agg #[.slice A n c], .int .i64 z] w (StrsP (mMemIn dsa z) w)) := Lib.hid fun A n c w h => implMemIn_any dsa z A n c w h
  have HSP : Hid (∀ (A : Option Addr) (n c : Nat) (w : World), SD w w.heap.size A n c dsa → Calls Try.prog 25 #[.agg #[.slice A n c], .int .i64 z] w (StrsP (mMemIn dsa z) w)) := Lib.hid fun A n c w h => specMemIn_any dsa z A n c w h
  unfold StrsP at HIM HSP
  have OKM : Hid (∀ s ∈ mMemIn dsa z, s.size ≤ maxLen) := Lib.hid (by rw [mMemIn_is]; exact mNamesIn_ok (mBits_ok HOKa.out))
  have HFIT : Hid (mMemIn dsa z ≠ [] → mSet dsa (mMemIn dsa z) = z ∧ mSetOk dsa (mMemIn dsa z) = true) := Lib.hid (fun h => ⟨(memin_set h).2, (memin_set h).1⟩)
  generalize mMemIn dsa z = ms at *
  go_wp2_with fail
  rw [HW2.out]
  clear lf_ba
  refine (HIM.out _ _ _ _ Sa_2.out).mono ?_
  rintro e w3 ⟨Ag, cg, rfl, ho, hb⟩
  have ba_3 := keep1 hb ba_2
  have Sa_3 := Lib.hid ((Sa_2.out.below hb).call hb.size)
  have HB_3 : Hid (Below w.heap.size w w3) := Lib.hid (HB_2.out.trans (hb.mono HB_2.out.size))
  have Xg_3 := Lib.hid (ss_of_own ho OKM.out)
  clear hb ho ba_2 Sa_2 HB_2
  go_wp2_with fail
  refine (HSP.out _ _ _ _ Sa_3.out).mono ?_
  rintro e w4 ⟨Aw, cw, rfl, ho, hb⟩
  have ba_4 := keep1 hb ba_3
  have Sa_4 := Lib.hid ((Sa_3.out.below hb).call hb.size)
  have Xg_4 := Lib.hid ((Xg_3.out.below hb).call hb.size)
  have HB_4 : Hid (Below w.heap.size w w4) := Lib.hid (HB_3.out.trans (hb.mono HB_3.out.size))
  have Xw_4 := Lib.hid (ss_of_own ho OKM.out)
  clear hb ho ba_3 Sa_3 Xg_3 HB_3
  go_wp2_with fail
  refine (equalTexts_any ms _ _ _ _ _ _ _ Xg_4.out Xw_4.out).mono ?_
  rintro e w5 ⟨rfl, hb⟩
  have ba_5 := keep1 hb ba_4
  have Sa_5 := Lib.hid ((Sa_4.out.below hb).call hb.size)
  have Xg_5 := Lib.hid ((Xg_4.out.below hb).call hb.size)
  have Xw_5 := Lib.hid ((Xw_4.out.below hb).call hb.size)
  have HB_5 : Hid (Below w.heap.size w w5) := Lib.hid (HB_4.out.trans (hb.mono HB_4.out.size))
  clear hb  ba_4 Sa_4 Xg_4 Xw_4 HB_4
  by_cases h0 : ms.length = 0
  · have h01 : ((ms.length : Int) == 0) = true := by rw [beq_iff_eq]; omega
    have h02 := Lib.hid h0
    clear h0
    go_wp2_with fail
    refine (HSP.out _ _ _ _ Sa_5.out).mono ?_
    rintro e w6 ⟨Av, cv, rfl, ho, hb⟩
    have ba_6 := keep1 hb ba_5
    have Sa_6 := Lib.hid ((Sa_5.out.below hb).call hb.size)
    have Xg_6 := Lib.hid ((Xg_5.out.below hb).call hb.size)
    have Xw_6 := Lib.hid ((Xw_5.out.below hb).call hb.size)
    have HB_6 : Hid (Below w.heap.size w w6) := Lib.hid (HB_5.out.trans (hb.mono HB_5.out.size))
    have Xv_6 := Lib.hid (ss_of_own ho OKM.out)
    clear hb ho ba_5 Sa_5 Xg_5 Xw_5 HB_5
    go_wp2_with fail
    refine (equalTexts_any ms _ _ _ _ _ _ _ Xg_6.out Xv_6.out).mono ?_
    rintro e w7 ⟨rfl, hb⟩
    have ba_7 := keep1 hb ba_6
    have Sa_7 := Lib.hid ((Sa_6.out.below hb).call hb.size)
    have Xg_7 := Lib.hid ((Xg_6.out.below hb).call hb.size)
    have Xw_7 := Lib.hid ((Xw_6.out.below hb).call hb.size)
    have Xv_7 := Lib.hid ((Xv_6.out.below hb).call hb.size)
    have HB_7 : Hid (Below w.heap.size w w7) := Lib.hid (HB_6.out.trans (hb.mono HB_6.out.size))
    clear hb  ba_6 Sa_6 Xg_6 Xw_6 Xv_6 HB_6
    go_wp2
    go_ret
    exact ⟨rfl, HB_7.out⟩
  have h01 : ((ms.length : Int) == 0) = false := by rw [beq_eq_false_iff_ne]; omega
  have HF := Lib.hid (HFIT.out (fun e => h0 (by rw [e]; rfl)))
  clear HFIT h0
  go_wp2_with fail
  refine (implSet_v dsa ms _ _ _ _ Sa_5.out _ _ _ Xg_5.out HF.out.1 HF.out.2).mono ?_
  rintro e w6 ⟨rfl, hb⟩
  have ba_6 := keep1 hb ba_5
  have Sa_6 := Lib.hid ((Sa_5.out.below hb).call hb.size)
  have Xg_6 := Lib.hid ((Xg_5.out.below hb).call hb.size)
  have Xw_6 := Lib.hid ((Xw_5.out.below hb).call hb.size)
  have HB_6 : Hid (Below w.heap.size w w6) := Lib.hid (HB_5.out.trans (hb.mono HB_5.out.size))
  clear hb  ba_5 Sa_5 Xg_5 Xw_5 HB_5
  go_wp2
  go_ret
  exact ⟨rfl, HB_6.out⟩

theorem lifted (os : Os) (started : os.Started) (H : Type) (enc : TypeId × Value → H) :
    ReturnsInHanded {} Try.checked os 4 .any (Rows.fnMembersInSpec.pre6 enc Try.prog Try.f4 Rows.fnMembersInRow.domain false) (Rows.fnMembersInSpec.post enc Try.prog Try.f4 false true false false) := by
  refine returnsInHanded_of_change (C := Try.checked) own started (by kernel_rfl) Try.func4
    (ChangeSpec.witness6 (enc := enc) (C := Try.checked) false ⟨#[], #[.slice none 0 0], []⟩ 8 (by kernel_rfl) (by kernel_rfl) (by kernel_rfl) (by kernel_rfl)) ?_
  intro W base args ds gs before hval0 hW hcnd _
  have hval : ∀ (j : Nat) t v, Try.f4.params[j]? = some t → args[j]? = some v → Value.okWide Try.prog W .any base t v := hval0
  have hW' := hW
  obtain ⟨p, q, hA0, hV, rfl, hfz, hnd⟩ := hW
  have hA : DataW.TrodAll enc Try.prog W 0 (fun _ => true) true Try.f4.params.toList args.toList ds p := hA0
  rw [Try.params4] at hA hval
  obtain ⟨v0, vs0, d0, ds0, p0, q0, hargs, rfl, rfl, h0, r0⟩ := trodAll_cons hA
  obtain ⟨rfl, rfl, rfl⟩ := trodAll_nil r0
  obtain rfl : args = #[v0] := by cases args; simp_all
  obtain ⟨rfl, rfl⟩ := trodVars_none hV
  have k0 := h0
  have lt0 : ∀ x ∈ p0, x.block < W.heap.size := by obtain ⟨m, hm⟩ := k0; exact DataW.trod_lt m _ _ _ hm
  obtain ⟨A0, n0, c0, l0, rfl, w0⟩ := open_code (hval 0 22 v0 rfl rfl) h0
  clear hA0 hval0
  refine (walk A0 n0 c0 l0 W w0).mono fun e W' ⟨he, bel⟩ => ?_
  subst he
  exact ⟨_, rfl, _, _, _, [], _, [], hW', trodAll_mk1 (shut_bool Try.underlying4 _), (trodAll_cons_mk (Below.trod laidOut (by kernel_rfl) (of_decide_eq_true (by kernel_rfl)) k0 bel lt0) trodAll_mk0), rfl, bel.frame _, fun h => by cases h⟩

theorem over : Rows.fnMembersInRow.holds Try.pinned (OpenSpec.ofChange Rows.fnMembersInSpec) :=
  OpenClaim.holds_of_wide 4 Try.f4 rfl rfl rfl rfl rfl rfl rfl ⟨rfl, rfl, rfl, rfl, rfl⟩ rfl rfl rfl rfl rfl (by kernel_rfl) Try.func4 (by kernel_rfl)
    (of_decide_eq_true (by kernel_rfl)) (by unfold Func.isWrapper; first | (rw [if_pos (by decide +kernel)]; kernel_rfl) | (rw [if_neg (by decide +kernel)]; exact ⟨rfl, rfl⟩))
    (fun os started H enc _ => lifted os started H enc)

theorem proved : Rows.FnMembersInSaid := over
end Go.Proofs.Ytcbhfaijlmckbaa.fnMembersIn
