/-
For every code the law of looked up names returns true: the program's LookUp answers as its model, it is that of the member, and the number with the rank.
Conditions: none.
-/
import Derived.Test.YtcbhfaijlmckbaaGenH
import Derived.Test.YtcbhfaijlmckbaaOpenC
import Derived.Test.YtcbhfaijlmckbaaLBase
import Derived.Test.YtcbhfaijlmckbaaLTab
import Derived.Test.YtcbhfaijlmckbaaConvN
namespace Go.Proofs.Ytcbhfaijlmckbaa.fnLookUp
open Go.ChangeShapes Go.WideShapes Go.ChangeAt Go.RowKit
open Go.ChangeMaps (open_string shut_string)
set_option linter.unusedVariables false
set_option maxRecDepth 100000

set_option maxHeartbeats 16000000 in
theorem walk (A : Option Addr) (n c : Nat) (zs : List Int) (w : World) (h : SB w w.heap.size A n c zs) :
    Calls Try.prog 9 #[.slice A n c] w fun e w' => e = .returned (.bool true) ∧ Below w.heap.size w w' := by
  have hm := h.max
  have hcap := h.cap
  unfold maxLen at hm
  have HS0 := Lib.hid h
  clear h
  by_cases hbig : 1048576 < (n : Int)
  · go_enter Try.func9, Try.ntmps9
    go_wp2
    go_ret
    exact ⟨rfl, Below.refl _ _⟩
  go_enter Try.func9, Try.ntmps9
  go_wp2_with fail
  refine (drawLookUp_s A n c zs _ HS0.out).mono ?_
  rintro e w1 ⟨Aa, ca, dsa, T, q, ct, ts, s, rfl, hz, hna, hsma, hq, hsa, hst, hb⟩
  have HB_1 := Lib.hid hb
  have Sa_1 := Lib.hid hsa
  have HSMa := Lib.hid hsma
  have HOKa : Hid (∀ d ∈ dsa, d.ok) := Lib.hid (fun d hd => small_ok (hsma d hd))
  have St_1 := Lib.hid hst
  clear hb hsa hsma hst
  obtain ⟨w2, hw⟩ : ∃ W : World, W = (w1.alloc (.cells #[.slice Aa dsa.length ca] 25)) := ⟨_, rfl⟩
  have hb : Below w1.heap.size w1 w2 := by rw [hw]; exact ((Below.refl _ _).alloc (by first | exact Nat.le_refl _ | (simp; done) | (simp; omega)) _)
  have Sa_2 := Lib.hid ((Sa_1.out.below hb).call hb.size)
  have St_2 := Lib.hid ((St_1.out.below hb).call hb.size)
  have HB_2 : Hid (Below w.heap.size w w2) := Lib.hid (HB_1.out.trans (hb.mono HB_1.out.size))
  have ba_2 : w2.cell? ⟨w1.heap.size, 0, none⟩ = some (.slice Aa dsa.length ca) := by rw [hw]; simp [go_sem]
  have lf_ba : (w1.alloc (.cells #[.slice Aa dsa.length ca] 25)).cell? ⟨w1.heap.size, 0, none⟩ = some (.slice Aa dsa.length ca) := by rw [← hw]; exact ba_2
  have HW2 : Hid ((w1.alloc (.cells #[.slice Aa dsa.length ca] 25)) = w2) := Lib.hid hw.symm
  clear hb hw Sa_1 St_1 HB_1
  have HZ : Hid (s.size ≤ maxLen) := Lib.hid (by unfold maxLen; omega)
  obtain ⟨r, hr⟩ : ∃ r, mLook dsa ts s = r := ⟨_, rfl⟩
  obtain ⟨v, hv⟩ : ∃ v, lkOk dsa ts s = v := ⟨_, rfl⟩
  have HR := Lib.hid hr
  have HV := Lib.hid hv
  clear hz
  go_wp2_with fail
  rw [HW2.out]
  clear lf_ba
  refine (implLook_v dsa ts s _ _ _ _ _ _ _ Sa_2.out St_2.out (by omega) HR.out HV.out).mono ?_
  rintro e w3 ⟨rfl, hb⟩
  have ba_3 := keep1 hb ba_2
  have Sa_3 := Lib.hid ((Sa_2.out.below hb).call hb.size)
  have St_3 := Lib.hid ((St_2.out.below hb).call hb.size)
  have HB_3 : Hid (Below w.heap.size w w3) := Lib.hid (HB_2.out.trans (hb.mono HB_2.out.size))
  clear hb  ba_2 Sa_2 St_2 HB_2
  go_wp2_with fail
  refine (specLook_v dsa ts s _ _ _ _ _ _ _ Sa_3.out St_3.out (by omega) HR.out HV.out).mono ?_
  rintro e w4 ⟨rfl, hb⟩
  have ba_4 := keep1 hb ba_3
  have Sa_4 := Lib.hid ((Sa_3.out.below hb).call hb.size)
  have St_4 := Lib.hid ((St_3.out.below hb).call hb.size)
  have HB_4 : Hid (Below w.heap.size w w4) := Lib.hid (HB_3.out.trans (hb.mono HB_3.out.size))
  clear hb  ba_3 Sa_3 St_3 HB_3
  cases v
  · clear hr hv
    go_wp2
    go_ret
    exact ⟨rfl, HB_4.out⟩
  obtain ⟨k, hk, j, hj, i, hi, hve, hxa, hjf, hrk, hl1, hl2, hl3⟩ := look_law hv
  have h2 : ts[i] = r := by rw [← hl1]; exact hr
  rw [h2] at hl2
  have HXA := Lib.hid hxa
  have HVE := Lib.hid hve
  have HJF := Lib.hid hjf
  have HRK := Lib.hid hrk
  have HL2 := Lib.hid hl2
  have HL3 := Lib.hid hl3
  have HT2 := Lib.hid h2
  clear hr hv hve hxa hjf hrk hl1 hl2 hl3 h2
  go_wp2_with fail
  refine (implValueOf_yes dsa s _ _ _ _ Sa_4.out HVE.out k hk HXA.out).mono ?_
  rintro e w5 ⟨rfl, hb⟩
  have ba_5 := keep1 hb ba_4
  have Sa_5 := Lib.hid ((Sa_4.out.below hb).call hb.size)
  have St_5 := Lib.hid ((St_4.out.below hb).call hb.size)
  have HB_5 : Hid (Below w.heap.size w w5) := Lib.hid (HB_4.out.trans (hb.mono HB_4.out.size))
  clear hb  ba_4 Sa_4 St_4 HB_4
  go_wp2_with fail
  refine (implNameOf_yes dsa dsa[k].val _ _ _ _ Sa_5.out HVE.out j hj HJF.out).mono ?_
  rintro e w6 ⟨rfl, hb⟩
  have ba_6 := keep1 hb ba_5
  have Sa_6 := Lib.hid ((Sa_5.out.below hb).call hb.size)
  have St_6 := Lib.hid ((St_5.out.below hb).call hb.size)
  have HB_6 : Hid (Below w.heap.size w w6) := Lib.hid (HB_5.out.trans (hb.mono HB_5.out.size))
  clear hb  ba_5 Sa_5 St_5 HB_5
  go_wp2_with fail
  refine (implLook_v dsa ts dsa[j].name _ _ _ _ _ _ _ Sa_6.out St_6.out (by omega) HL2.out HL3.out).mono ?_
  rintro e w7 ⟨rfl, hb⟩
  have ba_7 := keep1 hb ba_6
  have Sa_7 := Lib.hid ((Sa_6.out.below hb).call hb.size)
  have St_7 := Lib.hid ((St_6.out.below hb).call hb.size)
  have HB_7 : Hid (Below w.heap.size w w7) := Lib.hid (HB_6.out.trans (hb.mono HB_6.out.size))
  clear hb  ba_6 Sa_6 St_6 HB_6
  go_wp2_with fail
  refine (implRankOf_w dsa s _ _ _ _ Sa_7.out HVE.out k hk HXA.out HRK.out).mono ?_
  rintro e w8 ⟨rfl, hb⟩
  have ba_8 := keep1 hb ba_7
  have Sa_8 := Lib.hid ((Sa_7.out.below hb).call hb.size)
  have St_8 := Lib.hid ((St_7.out.below hb).call hb.size)
  have HB_8 : Hid (Below w.heap.size w w8) := Lib.hid (HB_7.out.trans (hb.mono HB_7.out.size))
  clear hb  ba_7 Sa_7 St_7 HB_7
  obtain ⟨b, o, hT, hbb, d1⟩ := St_8.out.at_ hi
  subst hT
  rw [HT2.out] at d1
  have hql := St_8.out.len
  have hqc := St_8.out.cap
  have hqm := St_8.out.max
  unfold maxLen at hqm
  have hi1 : (i : Int) < (q : Int) := by omega
  have hi0 : (0 : Int) ≤ (i : Int) := by omega
  have HQL := Lib.hid hql
  clear hql
  go_wp2
  go_ret
  exact ⟨rfl, HB_8.out⟩

theorem lifted (os : Os) (started : os.Started) (H : Type) (enc : TypeId × Value → H) :
    ReturnsInHanded {} Try.checked os 9 .any (Rows.fnLookUpSpec.pre6 enc Try.prog Try.f9 Rows.fnLookUpRow.domain false) (Rows.fnLookUpSpec.post enc Try.prog Try.f9 false true false false) := by
  refine returnsInHanded_of_change (C := Try.checked) own started (by kernel_rfl) Try.func9
    (ChangeSpec.witness6 (enc := enc) (C := Try.checked) false ⟨#[], #[.slice none 0 0], []⟩ 8 (by kernel_rfl) (by kernel_rfl) (by kernel_rfl) (by kernel_rfl)) ?_
  intro W base args ds gs before hval0 hW hcnd _
  have hval : ∀ (j : Nat) t v, Try.f9.params[j]? = some t → args[j]? = some v → Value.okWide Try.prog W .any base t v := hval0
  have hW' := hW
  obtain ⟨p, q, hA0, hV, rfl, hfz, hnd⟩ := hW
  have hA : DataW.TrodAll enc Try.prog W 0 (fun _ => true) true Try.f9.params.toList args.toList ds p := hA0
  rw [Try.params9] at hA hval
  obtain ⟨v0, vs0, d0, ds0, p0, q0, hargs, rfl, rfl, h0, r0⟩ := trodAll_cons hA
  obtain ⟨rfl, rfl, rfl⟩ := trodAll_nil r0
  obtain rfl : args = #[v0] := by cases args; simp_all
  obtain ⟨rfl, rfl⟩ := trodVars_none hV
  have k0 := h0
  have lt0 : ∀ x ∈ p0, x.block < W.heap.size := by obtain ⟨m, hm⟩ := k0; exact DataW.trod_lt m _ _ _ hm
  obtain ⟨A0, n0, c0, l0, rfl, w0⟩ := open_code (hval 0 22 v0 rfl rfl) h0
  clear hA0 hval0
  refine (walk A0 n0 c0 l0 W w0).mono fun e W' ⟨he, bel⟩ => ?_
  subst he
  exact ⟨_, rfl, _, _, _, [], _, [], hW', trodAll_mk1 (shut_bool Try.underlying4 _), (trodAll_cons_mk (Below.trod laidOut (by kernel_rfl) (of_decide_eq_true (by kernel_rfl)) k0 bel lt0) trodAll_mk0), rfl, bel.frame _, fun h => by cases h⟩

theorem over : Rows.fnLookUpRow.holds Try.pinned (OpenSpec.ofChange Rows.fnLookUpSpec) :=
  OpenClaim.holds_of_wide 9 Try.f9 rfl rfl rfl rfl rfl rfl rfl ⟨rfl, rfl, rfl, rfl, rfl⟩ rfl rfl rfl rfl rfl (by kernel_rfl) Try.func9 (by kernel_rfl)
    (of_decide_eq_true (by kernel_rfl)) (by unfold Func.isWrapper; first | (rw [if_pos (by decide +kernel)]; kernel_rfl) | (rw [if_neg (by decide +kernel)]; exact ⟨rfl, rfl⟩))
    (fun os started H enc _ => lifted os started H enc)

theorem proved : Rows.FnLookUpSaid := over
end Go.Proofs.Ytcbhfaijlmckbaa.fnLookUp
