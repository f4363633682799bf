/-
For every code the law of what reads old values returns true: the program's ByValue answers as its model, and where ReadsOld holds it is possible for each name and a name with its value.
Conditions: none.
-/
import Derived.Test.YtcbhfaijlmckbaaGenT
import Derived.Test.YtcbhfaijlmckbaaOpenC
import Derived.Test.YtcbhfaijlmckbaaLBase
import Derived.Test.YtcbhfaijlmckbaaLConv2
import Derived.Test.YtcbhfaijlmckbaaConvI
import Derived.Test.YtcbhfaijlmckbaaConvS
import Derived.Test.YtcbhfaijlmckbaaReadI
namespace Go.Proofs.Ytcbhfaijlmckbaa.fnByValueOld
open Go.ChangeShapes Go.WideShapes Go.ChangeAt Go.RowKit
open Go.ChangeMaps (open_string shut_string)
set_option linter.unusedVariables false
set_option maxRecDepth 100000

set_option maxHeartbeats 16000000 in
theorem walk (A : Option Addr) (n c : Nat) (zs : List Int) (w : World) (h : SB w w.heap.size A n c zs) :
    Calls Try.prog 8 #[.slice A n c] w fun e w' => e = .returned (.bool true) ∧ Below w.heap.size w w' := by
  have hm := h.max
  have hcap := h.cap
  unfold maxLen at hm
  have HS0 := Lib.hid h
  clear h
  by_cases hbig : 1048576 < (n : Int)
  · go_enter Try.func8, Try.ntmps8
    go_wp2
    go_ret
    exact ⟨rfl, Below.refl _ _⟩
  go_enter Try.func8, Try.ntmps8
  go_wp2_with fail
  refine (drawByValue_s A n c zs _ HS0.out).mono ?_
  rintro e w1 ⟨Aa, ca, dsa, Ab, cb, dsb, s, rfl, hz, hna, hnb, hsma, hsmb, hsa, hsb, hb⟩
  have HB_1 := Lib.hid hb
  have Sa_1 := Lib.hid hsa
  have HSMa := Lib.hid hsma
  have HOKa : Hid (∀ d ∈ dsa, d.ok) := Lib.hid (fun d hd => small_ok (hsma d hd))
  have Sb_1 := Lib.hid hsb
  have HSMb := Lib.hid hsmb
  have HOKb : Hid (∀ d ∈ dsb, d.ok) := Lib.hid (fun d hd => small_ok (hsmb d hd))
  clear hb hsa hsma hsb hsmb
  obtain ⟨w2, hw⟩ : ∃ W : World, W = ((w1.alloc (.cells #[.slice Aa dsa.length ca] 25)).alloc (.cells #[.slice Ab dsb.length cb] 25)) := ⟨_, rfl⟩
  have hb : Below w1.heap.size w1 w2 := by rw [hw]; exact (((Below.refl _ _).alloc (by first | exact Nat.le_refl _ | (simp; done) | (simp; omega)) _).alloc (by first | exact Nat.le_refl _ | (simp; done) | (simp; omega)) _)
  have Sa_2 := Lib.hid ((Sa_1.out.below hb).call hb.size)
  have Sb_2 := Lib.hid ((Sb_1.out.below hb).call hb.size)
  have HB_2 : Hid (Below w.heap.size w w2) := Lib.hid (HB_1.out.trans (hb.mono HB_1.out.size))
  have ba_2 : w2.cell? ⟨w1.heap.size, 0, none⟩ = some (.slice Aa dsa.length ca) := by rw [hw]; simp [go_sem]
  have bb_2 : w2.cell? ⟨w1.heap.size + 1, 0, none⟩ = some (.slice Ab dsb.length cb) := by rw [hw]; simp [go_sem]
  have lf_ba : ((w1.alloc (.cells #[.slice Aa dsa.length ca] 25)).alloc (.cells #[.slice Ab dsb.length cb] 25)).cell? ⟨w1.heap.size, 0, none⟩ = some (.slice Aa dsa.length ca) := by rw [← hw]; exact ba_2
  have lf_bb : ((w1.alloc (.cells #[.slice Aa dsa.length ca] 25)).alloc (.cells #[.slice Ab dsb.length cb] 25)).cell? ⟨w1.heap.size + 1, 0, none⟩ = some (.slice Ab dsb.length cb) := by rw [← hw]; exact bb_2
  have HW2 : Hid (((w1.alloc (.cells #[.slice Aa dsa.length ca] 25)).alloc (.cells #[.slice Ab dsb.length cb] 25)) = w2) := Lib.hid hw.symm
  clear hb hw Sa_1 Sb_1 HB_1
  have HZ : Hid (s.size ≤ maxLen) := Lib.hid (by unfold maxLen; omega)
  obtain ⟨r, hr⟩ : ∃ r, mByV dsa dsb s = r := ⟨_, rfl⟩
  obtain ⟨v, hv⟩ : ∃ v, byVOk dsa dsb s = v := ⟨_, rfl⟩
  have HR := Lib.hid hr
  have HV := Lib.hid hv
  clear hz
  go_wp2_with fail
  rw [HW2.out]
  clear lf_ba lf_bb
  refine (implByV_v dsa dsb s _ _ _ _ _ _ _ Sa_2.out Sb_2.out HR.out HV.out).mono ?_
  rintro e w3 ⟨rfl, hb⟩
  have ba_3 := keep1 hb ba_2
  have bb_3 := keep1 hb bb_2
  have Sa_3 := Lib.hid ((Sa_2.out.below hb).call hb.size)
  have Sb_3 := Lib.hid ((Sb_2.out.below hb).call hb.size)
  have HB_3 : Hid (Below w.heap.size w w3) := Lib.hid (HB_2.out.trans (hb.mono HB_2.out.size))
  clear hb  ba_2 bb_2 Sa_2 Sb_2 HB_2
  go_wp2_with fail
  refine (specByV_v dsa dsb s _ _ _ _ _ _ _ Sa_3.out Sb_3.out HR.out HV.out).mono ?_
  rintro e w4 ⟨rfl, hb⟩
  have ba_4 := keep1 hb ba_3
  have bb_4 := keep1 hb bb_3
  have Sa_4 := Lib.hid ((Sa_3.out.below hb).call hb.size)
  have Sb_4 := Lib.hid ((Sb_3.out.below hb).call hb.size)
  have HB_4 : Hid (Below w.heap.size w w4) := Lib.hid (HB_3.out.trans (hb.mono HB_3.out.size))
  clear hb  ba_3 bb_3 Sa_3 Sb_3 HB_3
  obtain ⟨vr, hvr⟩ : ∃ x, mReads dsa dsb = x := ⟨_, rfl⟩
  have HVR := Lib.hid hvr
  go_wp2_with fail
  refine (implReads_v dsa dsb _ _ _ _ _ _ _ Sa_4.out Sb_4.out HVR.out).mono ?_
  rintro e w5 ⟨rfl, hb⟩
  have ba_5 := keep1 hb ba_4
  have bb_5 := keep1 hb bb_4
  have Sa_5 := Lib.hid ((Sa_4.out.below hb).call hb.size)
  have Sb_5 := Lib.hid ((Sb_4.out.below hb).call hb.size)
  have HB_5 : Hid (Below w.heap.size w w5) := Lib.hid (HB_4.out.trans (hb.mono HB_4.out.size))
  clear hb  ba_4 bb_4 Sa_4 Sb_4 HB_4
  cases vr
  · clear hr hv hvr
    go_wp2
    go_ret
    exact ⟨rfl, HB_5.out⟩
  cases v
  · skip
    obtain ⟨hve, hxn⟩ := old_no hvr hv
    have HVE := Lib.hid hve
    have HXN := Lib.hid hxn
    obtain ⟨z, f, hzf⟩ := valueOf_ex dsa r
    have HZF := Lib.hid hzf
    clear hr hv hvr hve hxn hzf
    go_wp2_with fail
    refine (implValueOf_no dsa s _ _ _ _ Sa_5.out HVE.out rfl (.inr HXN.out)).mono ?_
    rintro e w6 ⟨rfl, hb⟩
    have ba_6 := keep1 hb ba_5
    have bb_6 := keep1 hb bb_5
    have Sa_6 := Lib.hid ((Sa_5.out.below hb).call hb.size)
    have Sb_6 := Lib.hid ((Sb_5.out.below hb).call hb.size)
    have HB_6 : Hid (Below w.heap.size w w6) := Lib.hid (HB_5.out.trans (hb.mono HB_5.out.size))
    clear hb  ba_5 bb_5 Sa_5 Sb_5 HB_5
    go_wp2_with fail
    refine (HZF.out _ _ _ _ Sa_6.out).mono ?_
    rintro e w7 ⟨rfl, hb⟩
    have ba_7 := keep1 hb ba_6
    have bb_7 := keep1 hb bb_6
    have Sa_7 := Lib.hid ((Sa_6.out.below hb).call hb.size)
    have Sb_7 := Lib.hid ((Sb_6.out.below hb).call hb.size)
    have HB_7 : Hid (Below w.heap.size w w7) := Lib.hid (HB_6.out.trans (hb.mono HB_6.out.size))
    clear hb  ba_6 bb_6 Sa_6 Sb_6 HB_6
    go_wp2
    go_ret
    exact ⟨rfl, HB_7.out⟩
  obtain ⟨k, hk, i, hi, hve, hxa, hxi, hiv⟩ := old_yes hvr hv
  rw [hr] at hxi
  have HXA := Lib.hid hxa
  have HXI := Lib.hid hxi
  have HVE := Lib.hid hve
  have HIV := Lib.hid hiv
  clear hr hv hvr hve hxa hxi hiv
  go_wp2_with fail
  refine (implValueOf_yes dsa s _ _ _ _ Sa_5.out HVE.out k hk HXA.out).mono ?_
  rintro e w6 ⟨rfl, hb⟩
  have ba_6 := keep1 hb ba_5
  have bb_6 := keep1 hb bb_5
  have Sa_6 := Lib.hid ((Sa_5.out.below hb).call hb.size)
  have Sb_6 := Lib.hid ((Sb_5.out.below hb).call hb.size)
  have HB_6 : Hid (Below w.heap.size w w6) := Lib.hid (HB_5.out.trans (hb.mono HB_5.out.size))
  clear hb  ba_5 bb_5 Sa_5 Sb_5 HB_5
  go_wp2_with fail
  refine (implValueOf_yes dsa r _ _ _ _ Sa_6.out HVE.out i hi HXI.out).mono ?_
  rintro e w7 ⟨rfl, hb⟩
  have ba_7 := keep1 hb ba_6
  have bb_7 := keep1 hb bb_6
  have Sa_7 := Lib.hid ((Sa_6.out.below hb).call hb.size)
  have Sb_7 := Lib.hid ((Sb_6.out.below hb).call hb.size)
  have HB_7 : Hid (Below w.heap.size w w7) := Lib.hid (HB_6.out.trans (hb.mono HB_6.out.size))
  clear hb  ba_6 bb_6 Sa_6 Sb_6 HB_6
  have hiv2 : dsa[i].val = dsa[k].val := HIV.out
  go_wp2
  go_ret
  exact ⟨rfl, HB_7.out⟩

theorem lifted (os : Os) (started : os.Started) (H : Type) (enc : TypeId × Value → H) :
    ReturnsInHanded {} Try.checked os 8 .any (Rows.fnByValueOldSpec.pre6 enc Try.prog Try.f8 Rows.fnByValueOldRow.domain false) (Rows.fnByValueOldSpec.post enc Try.prog Try.f8 false true false false) := by
  refine returnsInHanded_of_change (C := Try.checked) own started (by kernel_rfl) Try.func8
    (ChangeSpec.witness6 (enc := enc) (C := Try.checked) false ⟨#[], #[.slice none 0 0], []⟩ 8 (by kernel_rfl) (by kernel_rfl) (by kernel_rfl) (by kernel_rfl)) ?_
  intro W base args ds gs before hval0 hW hcnd _
  have hval : ∀ (j : Nat) t v, Try.f8.params[j]? = some t → args[j]? = some v → Value.okWide Try.prog W .any base t v := hval0
  have hW' := hW
  obtain ⟨p, q, hA0, hV, rfl, hfz, hnd⟩ := hW
  have hA : DataW.TrodAll enc Try.prog W 0 (fun _ => true) true Try.f8.params.toList args.toList ds p := hA0
  rw [Try.params8] at hA hval
  obtain ⟨v0, vs0, d0, ds0, p0, q0, hargs, rfl, rfl, h0, r0⟩ := trodAll_cons hA
  obtain ⟨rfl, rfl, rfl⟩ := trodAll_nil r0
  obtain rfl : args = #[v0] := by cases args; simp_all
  obtain ⟨rfl, rfl⟩ := trodVars_none hV
  have k0 := h0
  have lt0 : ∀ x ∈ p0, x.block < W.heap.size := by obtain ⟨m, hm⟩ := k0; exact DataW.trod_lt m _ _ _ hm
  obtain ⟨A0, n0, c0, l0, rfl, w0⟩ := open_code (hval 0 22 v0 rfl rfl) h0
  clear hA0 hval0
  refine (walk A0 n0 c0 l0 W w0).mono fun e W' ⟨he, bel⟩ => ?_
  subst he
  exact ⟨_, rfl, _, _, _, [], _, [], hW', trodAll_mk1 (shut_bool Try.underlying4 _), (trodAll_cons_mk (Below.trod laidOut (by kernel_rfl) (of_decide_eq_true (by kernel_rfl)) k0 bel lt0) trodAll_mk0), rfl, bel.frame _, fun h => by cases h⟩

theorem over : Rows.fnByValueOldRow.holds Try.pinned (OpenSpec.ofChange Rows.fnByValueOldSpec) :=
  OpenClaim.holds_of_wide 8 Try.f8 rfl rfl rfl rfl rfl rfl rfl ⟨rfl, rfl, rfl, rfl, rfl⟩ rfl rfl rfl rfl rfl (by kernel_rfl) Try.func8 (by kernel_rfl)
    (of_decide_eq_true (by kernel_rfl)) (by unfold Func.isWrapper; first | (rw [if_pos (by decide +kernel)]; kernel_rfl) | (rw [if_neg (by decide +kernel)]; exact ⟨rfl, rfl⟩))
    (fun os started H enc _ => lifted os started H enc)

theorem proved : Rows.FnByValueOldSaid := over
end Go.Proofs.Ytcbhfaijlmckbaa.fnByValueOld
