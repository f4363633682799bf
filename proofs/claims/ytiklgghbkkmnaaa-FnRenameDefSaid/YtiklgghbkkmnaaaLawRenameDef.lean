/-
For every code the law of renamed names returns true: the program's RenameDef answers as its model, renamed back all is as before, and the new name has the value of the old one.
Conditions: none.
-/
import Derived.Test.YtiklgghbkkmnaaaGenA
import Derived.Test.YtiklgghbkkmnaaaLFun
import Derived.Test.YtiklgghbkkmnaaaOpenC
import Derived.Test.YtiklgghbkkmnaaaLPa
import Derived.Test.YtiklgghbkkmnaaaLEq
namespace Go.Proofs.Ytiklgghbkkmnaaa.fnRenameDef
open Go.ChangeShapes Go.WideShapes Go.ChangeAt Go.RowKit
open Go.ChangeMaps (open_string shut_string)
set_option linter.unusedVariables false
set_option maxRecDepth 100000

set_option maxHeartbeats 16000000 in
theorem walk (A : Option Addr) (n c : Nat) (zs : List Int) (w : World) (h : SB w w.heap.size A n c zs) :
    Calls Try.prog 5 #[.slice A n c] w fun e w' => e = .returned (.bool true) ∧ Below w.heap.size w w' := by
  have hm := h.max
  have hcap := h.cap
  unfold maxLen at hm
  have HS0 := Lib.hid h
  clear h
  by_cases hbig : 1048576 < (n : Int)
  · go_enter Try.func5, Try.ntmps5
    go_wp2
    go_ret
    exact ⟨rfl, Below.refl _ _⟩
  go_enter Try.func5, Try.ntmps5
  go_wp2_with fail
  refine (drawRenameDef_any A n c zs _ HS0.out).mono ?_
  rintro e w1 ⟨Aa, ca, dsa, s, t, rfl, hzs, hzt, hn, hsma, hsa, hb⟩
  have HB_1 := Lib.hid hb
  have Sa_1 := Lib.hid hsa
  have HSMa := Lib.hid hsma
  have HOKa : Hid (∀ d ∈ dsa, d.ok) := Lib.hid (fun d hd => small_ok (hsma d hd))
  have HZs := Lib.hid hzs
  have HZt := Lib.hid hzt
  clear hb hsa hsma hzs hzt
  obtain ⟨w2, hw⟩ : ∃ W : World, W = (w1.alloc (.cells #[.slice Aa dsa.length ca] 25)) := ⟨_, rfl⟩
  have hb : Below w1.heap.size w1 w2 := by rw [hw]; exact ((Below.refl _ _).alloc (by first | exact Nat.le_refl _ | (simp; done) | (simp; omega)) _)
  have Sa_2 := Lib.hid ((Sa_1.out.below hb).call hb.size)
  have HB_2 : Hid (Below w.heap.size w w2) := Lib.hid (HB_1.out.trans (hb.mono HB_1.out.size))
  have ba_2 : w2.cell? ⟨w1.heap.size, 0, none⟩ = some (.slice Aa dsa.length ca) := by rw [hw]; simp [go_sem]
  have lf_ba : (w1.alloc (.cells #[.slice Aa dsa.length ca] 25)).cell? ⟨w1.heap.size, 0, none⟩ = some (.slice Aa dsa.length ca) := by rw [← hw]; exact ba_2
  have HW2 : Hid ((w1.alloc (.cells #[.slice Aa dsa.length ca] 25)) = w2) := Lib.hid hw.symm
  clear hb hw Sa_1 HB_1
  have hzs1 : s.size ≤ maxLen := by have := HZs.out; unfold maxLen; omega
  have hzt1 : t.size ≤ maxLen := by have := HZt.out; unfold maxLen; omega
  have OKM0 : ∀ d ∈ (mRename dsa s t).getD [], d.ok := fun d hd => by
    rcases mRename_mem hd with h | ⟨h1, y, hy, h2⟩
    · exact HOKa.out d h
    · have := HOKa.out y hy
      exact ⟨by rw [h1]; exact hzt1, by rw [h2]; exact this.2⟩
  have hml := mRename_len dsa s t
  have HIM : Hid (∀ (A : Option Addr) (n c : Nat) (w : World), SD w w.heap.size A n c dsa → Calls Try.prog 25 #[.agg #[.slice A n c], .string s, .string t] w (EnumP (mRename dsa s t) w)) := Lib.hid fun A n c w h => implRename_v dsa s t A n c w h hzt1
  have HSP : Hid (∀ (A : Option Addr) (n c : Nat) (w : World), SD w w.heap.size A n c dsa → Calls Try.prog 26 #[.agg #[.slice A n c], .string s, .string t] w (EnumP (mRename dsa s t) w)) := Lib.hid fun A n c w h => specRename_v dsa s t A n c w h hzt1
  unfold EnumP at HIM HSP
  have HFIT : Hid ((mRename dsa s t).isSome = true → ∃ k, RenL dsa s t ((mRename dsa s t).getD []) k) := Lib.hid (fun h => by cases hq : mRename dsa s t with | none => rw [hq] at h; cases h | some es => exact rename_law hq)
  generalize (mRename dsa s t).getD [] = ms at *
  generalize (mRename dsa s t).isSome = ok at *
  have OKM := Lib.hid OKM0
  have HS1 := Lib.hid hzs1
  clear OKM0 hzs1 hzt1
  go_wp2_with fail
  rw [HW2.out]
  clear lf_ba
  refine (HIM.out _ _ _ _ Sa_2.out).mono ?_
  rintro e w3 ⟨Ag, cg, rfl, ho, hb⟩
  have ba_3 := keep1 hb ba_2
  have Sa_3 := Lib.hid ((Sa_2.out.below hb).call hb.size)
  have HB_3 : Hid (Below w.heap.size w w3) := Lib.hid (HB_2.out.trans (hb.mono HB_2.out.size))
  have Sg_3 := Lib.hid (sd_of_own ho OKM.out)
  clear hb ho ba_2 Sa_2 HB_2
  obtain ⟨w4, hw⟩ : ∃ W : World, W = (w3.alloc (.cells #[.slice Ag ms.length cg] 25)) := ⟨_, rfl⟩
  have hb : Below w3.heap.size w3 w4 := by rw [hw]; exact ((Below.refl _ _).alloc (by first | exact Nat.le_refl _ | (simp; done) | (simp; omega)) _)
  have ba_4 := keep1 hb ba_3
  have Sa_4 := Lib.hid ((Sa_3.out.below hb).call hb.size)
  have Sg_4 := Lib.hid ((Sg_3.out.below hb).call hb.size)
  have HB_4 : Hid (Below w.heap.size w w4) := Lib.hid (HB_3.out.trans (hb.mono HB_3.out.size))
  have bg_4 : w4.cell? ⟨w3.heap.size, 0, none⟩ = some (.slice Ag ms.length cg) := by rw [hw]; simp [go_sem]
  have lf_ba : (w3.alloc (.cells #[.slice Ag ms.length cg] 25)).cell? ⟨w1.heap.size, 0, none⟩ = some (.slice Aa dsa.length ca) := by rw [← hw]; exact ba_4
  have lf_bg : (w3.alloc (.cells #[.slice Ag ms.length cg] 25)).cell? ⟨w3.heap.size, 0, none⟩ = some (.slice Ag ms.length cg) := by rw [← hw]; exact bg_4
  have HW4 : Hid ((w3.alloc (.cells #[.slice Ag ms.length cg] 25)) = w4) := Lib.hid hw.symm
  clear hb hw ba_3 Sa_3 Sg_3 HB_3
  go_wp2_with fail
  rw [HW4.out]
  clear lf_ba lf_bg
  refine (HSP.out _ _ _ _ Sa_4.out).mono ?_
  rintro e w5 ⟨Aw, cw, rfl, ho, hb⟩
  have ba_5 := keep1 hb ba_4
  have bg_5 := keep1 hb bg_4
  have Sa_5 := Lib.hid ((Sa_4.out.below hb).call hb.size)
  have Sg_5 := Lib.hid ((Sg_4.out.below hb).call hb.size)
  have HB_5 : Hid (Below w.heap.size w w5) := Lib.hid (HB_4.out.trans (hb.mono HB_4.out.size))
  have Sw_5 := Lib.hid (sd_of_own ho OKM.out)
  clear hb ho ba_4 bg_4 Sa_4 Sg_4 HB_4
  obtain ⟨w6, hw⟩ : ∃ W : World, W = (w5.alloc (.cells #[.slice Aw ms.length cw] 25)) := ⟨_, rfl⟩
  have hb : Below w5.heap.size w5 w6 := by rw [hw]; exact ((Below.refl _ _).alloc (by first | exact Nat.le_refl _ | (simp; done) | (simp; omega)) _)
  have ba_6 := keep1 hb ba_5
  have bg_6 := keep1 hb bg_5
  have Sa_6 := Lib.hid ((Sa_5.out.below hb).call hb.size)
  have Sg_6 := Lib.hid ((Sg_5.out.below hb).call hb.size)
  have Sw_6 := Lib.hid ((Sw_5.out.below hb).call hb.size)
  have HB_6 : Hid (Below w.heap.size w w6) := Lib.hid (HB_5.out.trans (hb.mono HB_5.out.size))
  have bw_6 : w6.cell? ⟨w5.heap.size, 0, none⟩ = some (.slice Aw ms.length cw) := by rw [hw]; simp [go_sem]
  have lf_ba : (w5.alloc (.cells #[.slice Aw ms.length cw] 25)).cell? ⟨w1.heap.size, 0, none⟩ = some (.slice Aa dsa.length ca) := by rw [← hw]; exact ba_6
  have lf_bg : (w5.alloc (.cells #[.slice Aw ms.length cw] 25)).cell? ⟨w3.heap.size, 0, none⟩ = some (.slice Ag ms.length cg) := by rw [← hw]; exact bg_6
  have lf_bw : (w5.alloc (.cells #[.slice Aw ms.length cw] 25)).cell? ⟨w5.heap.size, 0, none⟩ = some (.slice Aw ms.length cw) := by rw [← hw]; exact bw_6
  have HW6 : Hid ((w5.alloc (.cells #[.slice Aw ms.length cw] 25)) = w6) := Lib.hid hw.symm
  clear hb hw ba_5 bg_5 Sa_5 Sg_5 Sw_5 HB_5
  go_wp2_with fail
  rw [HW6.out]
  clear lf_ba lf_bg lf_bw
  refine (equalEnum_any ms _ _ _ _ _ _ _ Sg_6.out Sw_6.out).mono ?_
  rintro e w7 ⟨rfl, hb⟩
  have ba_7 := keep1 hb ba_6
  have bg_7 := keep1 hb bg_6
  have bw_7 := keep1 hb bw_6
  have Sa_7 := Lib.hid ((Sa_6.out.below hb).call hb.size)
  have Sg_7 := Lib.hid ((Sg_6.out.below hb).call hb.size)
  have Sw_7 := Lib.hid ((Sw_6.out.below hb).call hb.size)
  have HB_7 : Hid (Below w.heap.size w w7) := Lib.hid (HB_6.out.trans (hb.mono HB_6.out.size))
  clear hb  ba_6 bg_6 bw_6 Sa_6 Sg_6 Sw_6 HB_6
  cases ok
  · skip
    go_wp2_with fail
    refine (equalEnum_any ms _ _ _ _ _ _ _ Sg_7.out Sw_7.out).mono ?_
    rintro e w8 ⟨rfl, hb⟩
    have ba_8 := keep1 hb ba_7
    have bg_8 := keep1 hb bg_7
    have bw_8 := keep1 hb bw_7
    have Sa_8 := Lib.hid ((Sa_7.out.below hb).call hb.size)
    have Sg_8 := Lib.hid ((Sg_7.out.below hb).call hb.size)
    have Sw_8 := Lib.hid ((Sw_7.out.below hb).call hb.size)
    have HB_8 : Hid (Below w.heap.size w w8) := Lib.hid (HB_7.out.trans (hb.mono HB_7.out.size))
    clear hb  ba_7 bg_7 bw_7 Sa_7 Sg_7 Sw_7 HB_7
    go_wp2
    go_ret
    exact ⟨rfl, HB_8.out⟩
  obtain ⟨k0, hf⟩ := HFIT.out rfl
  have HF := Lib.hid hf
  clear HFIT HIM HSP hf
  clear Sw_7
  clear bw_7
  have HV : Hid (∃ k, ∃ hk : k < ms.length, fidx (isNm t) ms = (k : Int) ∧ ms[k].val = (dsa[k0]'(HF.out.lt)).val) := Lib.hid ⟨k0, HF.out.lt2, HF.out.idx2, HF.out.val _ _⟩
  have HV0 : Hid (∃ k, ∃ hk : k < dsa.length, fidx (isNm s) dsa = (k : Int) ∧ dsa[k].val = (dsa[k0]'(HF.out.lt)).val) := Lib.hid ⟨k0, HF.out.lt, HF.out.idx, rfl⟩
  have HD2 : Hid (∀ (A : Option Addr) (n c : Nat) (w : World), SD w w.heap.size A n c ms → Calls Try.prog 25 #[.agg #[.slice A n c], .string t, .string s] w (EnumP (some dsa) w)) := Lib.hid fun A n c w h => by
    have := implRename_yes ms t s A n c w h HS1.out HF.out.ve k0 HF.out.lt2 HF.out.idx2 (HF.out.back HF.out.lt2)
    rw [chkO_yes HF.out.vd] at this
    exact this
  unfold EnumP at HD2
  simp only [Option.getD_some, Option.isSome_some] at HD2
  have HVD := Lib.hid HF.out.vd
  have HVE := Lib.hid HF.out.ve
  generalize (dsa[k0]'(HF.out.lt)).val = val at *
  clear HF
  go_wp2_with fail
  refine (HD2.out _ _ _ _ Sg_7.out).mono ?_
  rintro e w8 ⟨Ad, cd, rfl, ho, hb⟩
  have ba_8 := keep1 hb ba_7
  have bg_8 := keep1 hb bg_7
  have Sa_8 := Lib.hid ((Sa_7.out.below hb).call hb.size)
  have Sg_8 := Lib.hid ((Sg_7.out.below hb).call hb.size)
  have HB_8 : Hid (Below w.heap.size w w8) := Lib.hid (HB_7.out.trans (hb.mono HB_7.out.size))
  have Sd_8 := Lib.hid (sd_of_own ho HOKa.out)
  clear hb ho ba_7 bg_7 Sa_7 Sg_7 HB_7
  obtain ⟨w9, hw⟩ : ∃ W : World, W = (w8.alloc (.cells #[.slice Ad dsa.length cd] 25)) := ⟨_, rfl⟩
  have hb : Below w8.heap.size w8 w9 := by rw [hw]; exact ((Below.refl _ _).alloc (by first | exact Nat.le_refl _ | (simp; done) | (simp; omega)) _)
  have ba_9 := keep1 hb ba_8
  have bg_9 := keep1 hb bg_8
  have Sa_9 := Lib.hid ((Sa_8.out.below hb).call hb.size)
  have Sg_9 := Lib.hid ((Sg_8.out.below hb).call hb.size)
  have Sd_9 := Lib.hid ((Sd_8.out.below hb).call hb.size)
  have HB_9 : Hid (Below w.heap.size w w9) := Lib.hid (HB_8.out.trans (hb.mono HB_8.out.size))
  have bd_9 : w9.cell? ⟨w8.heap.size, 0, none⟩ = some (.slice Ad dsa.length cd) := by rw [hw]; simp [go_sem]
  have lf_ba : (w8.alloc (.cells #[.slice Ad dsa.length cd] 25)).cell? ⟨w1.heap.size, 0, none⟩ = some (.slice Aa dsa.length ca) := by rw [← hw]; exact ba_9
  have lf_bg : (w8.alloc (.cells #[.slice Ad dsa.length cd] 25)).cell? ⟨w3.heap.size, 0, none⟩ = some (.slice Ag ms.length cg) := by rw [← hw]; exact bg_9
  have lf_bd : (w8.alloc (.cells #[.slice Ad dsa.length cd] 25)).cell? ⟨w8.heap.size, 0, none⟩ = some (.slice Ad dsa.length cd) := by rw [← hw]; exact bd_9
  have HW9 : Hid ((w8.alloc (.cells #[.slice Ad dsa.length cd] 25)) = w9) := Lib.hid hw.symm
  clear hb hw ba_8 bg_8 Sa_8 Sg_8 Sd_8 HB_8
  go_wp2_with fail
  rw [HW9.out]
  clear lf_ba lf_bg lf_bd
  refine (implValue_at dsa _ _ _ _ _ Sa_9.out HVD.out HV0.out).mono ?_
  rintro e w10 ⟨rfl, hb⟩
  have ba_10 := keep1 hb ba_9
  have bg_10 := keep1 hb bg_9
  have bd_10 := keep1 hb bd_9
  have Sa_10 := Lib.hid ((Sa_9.out.below hb).call hb.size)
  have Sg_10 := Lib.hid ((Sg_9.out.below hb).call hb.size)
  have Sd_10 := Lib.hid ((Sd_9.out.below hb).call hb.size)
  have HB_10 : Hid (Below w.heap.size w w10) := Lib.hid (HB_9.out.trans (hb.mono HB_9.out.size))
  clear hb  ba_9 bg_9 bd_9 Sa_9 Sg_9 Sd_9 HB_9
  go_wp2_with fail
  refine (implValue_at ms _ _ _ _ _ Sg_10.out HVE.out HV.out).mono ?_
  rintro e w11 ⟨rfl, hb⟩
  have ba_11 := keep1 hb ba_10
  have bg_11 := keep1 hb bg_10
  have bd_11 := keep1 hb bd_10
  have Sa_11 := Lib.hid ((Sa_10.out.below hb).call hb.size)
  have Sg_11 := Lib.hid ((Sg_10.out.below hb).call hb.size)
  have Sd_11 := Lib.hid ((Sd_10.out.below hb).call hb.size)
  have HB_11 : Hid (Below w.heap.size w w11) := Lib.hid (HB_10.out.trans (hb.mono HB_10.out.size))
  clear hb  ba_10 bg_10 bd_10 Sa_10 Sg_10 Sd_10 HB_10
  go_wp2_with fail
  refine (equalEnum_any dsa _ _ _ _ _ _ _ Sd_11.out Sa_11.out).mono ?_
  rintro e w12 ⟨rfl, hb⟩
  have ba_12 := keep1 hb ba_11
  have bg_12 := keep1 hb bg_11
  have bd_12 := keep1 hb bd_11
  have Sa_12 := Lib.hid ((Sa_11.out.below hb).call hb.size)
  have Sg_12 := Lib.hid ((Sg_11.out.below hb).call hb.size)
  have Sd_12 := Lib.hid ((Sd_11.out.below hb).call hb.size)
  have HB_12 : Hid (Below w.heap.size w w12) := Lib.hid (HB_11.out.trans (hb.mono HB_11.out.size))
  clear hb  ba_11 bg_11 bd_11 Sa_11 Sg_11 Sd_11 HB_11
  go_wp2
  go_ret
  exact ⟨rfl, HB_12.out⟩

theorem lifted (os : Os) (started : os.Started) (H : Type) (enc : TypeId × Value → H) :
    ReturnsInHanded {} Try.checked os 5 .any (Rows.fnRenameDefSpec.pre6 enc Try.prog Try.f5 Rows.fnRenameDefRow.domain false) (Rows.fnRenameDefSpec.post enc Try.prog Try.f5 false true false false) := by
  refine returnsInHanded_of_change (C := Try.checked) own started (by kernel_rfl) Try.func5
    (ChangeSpec.witness6 (enc := enc) (C := Try.checked) false ⟨#[], #[.slice none 0 0], []⟩ 8 (by kernel_rfl) (by kernel_rfl) (by kernel_rfl) (by kernel_rfl)) ?_
  intro W base args ds gs before hval0 hW hcnd _
  have hval : ∀ (j : Nat) t v, Try.f5.params[j]? = some t → args[j]? = some v → Value.okWide Try.prog W .any base t v := hval0
  have hW' := hW
  obtain ⟨p, q, hA0, hV, rfl, hfz, hnd⟩ := hW
  have hA : DataW.TrodAll enc Try.prog W 0 (fun _ => true) true Try.f5.params.toList args.toList ds p := hA0
  rw [Try.params5] at hA hval
  obtain ⟨v0, vs0, d0, ds0, p0, q0, hargs, rfl, rfl, h0, r0⟩ := trodAll_cons hA
  obtain ⟨rfl, rfl, rfl⟩ := trodAll_nil r0
  obtain rfl : args = #[v0] := by cases args; simp_all
  obtain ⟨rfl, rfl⟩ := trodVars_none hV
  have k0 := h0
  have lt0 : ∀ x ∈ p0, x.block < W.heap.size := by obtain ⟨m, hm⟩ := k0; exact DataW.trod_lt m _ _ _ hm
  obtain ⟨A0, n0, c0, l0, rfl, w0⟩ := open_code (hval 0 22 v0 rfl rfl) h0
  clear hA0 hval0
  refine (walk A0 n0 c0 l0 W w0).mono fun e W' ⟨he, bel⟩ => ?_
  subst he
  exact ⟨_, rfl, _, _, _, [], _, [], hW', trodAll_mk1 (shut_bool Try.underlying4 _), (trodAll_cons_mk (Below.trod laidOut (by kernel_rfl) (of_decide_eq_true (by kernel_rfl)) k0 bel lt0) trodAll_mk0), rfl, bel.frame _, fun h => by cases h⟩

theorem over : Rows.fnRenameDefRow.holds Try.pinned (OpenSpec.ofChange Rows.fnRenameDefSpec) :=
  OpenClaim.holds_of_wide 5 Try.f5 rfl rfl rfl rfl rfl rfl rfl ⟨rfl, rfl, rfl, rfl, rfl⟩ rfl rfl rfl rfl rfl (by kernel_rfl) Try.func5 (by kernel_rfl)
    (of_decide_eq_true (by kernel_rfl)) (by unfold Func.isWrapper; first | (rw [if_pos (by decide +kernel)]; kernel_rfl) | (rw [if_neg (by decide +kernel)]; exact ⟨rfl, rfl⟩))
    (fun os started H enc _ => lifted os started H enc)

theorem proved : Rows.FnRenameDefSaid := over
end Go.Proofs.Ytiklgghbkkmnaaa.fnRenameDef
