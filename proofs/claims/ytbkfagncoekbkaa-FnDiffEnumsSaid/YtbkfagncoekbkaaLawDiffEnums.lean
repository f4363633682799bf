/-
For every code the law of changes that lead there returns true: the program's DiffEnums answers as its model; its changes can be applied, what they make means the same as the second enumeration, and there are none exactly if both mean the same.
Conditions: none.
-/
import Derived.Test.YtbkfagncoekbkaaGenEn2
import Derived.Test.YtbkfagncoekbkaaOpenC
import Derived.Test.YtbkfagncoekbkaaLPb
import Derived.Test.YtbkfagncoekbkaaLPc
import Derived.Test.YtbkfagncoekbkaaDiffW
import Derived.Test.YtbkfagncoekbkaaDiffI
import Derived.Test.YtbkfagncoekbkaaApplyI
import Derived.Test.YtbkfagncoekbkaaSameI
import Derived.Test.YtbkfagncoekbkaaLEq
namespace Go.Proofs.Ytbkfagncoekbkaa.fnDiffEnums
open Go.ChangeShapes Go.WideShapes Go.ChangeAt Go.RowKit
open Go.ChangeMaps (open_string shut_string)
set_option linter.unusedVariables false
set_option linter.unusedSimpArgs false
set_option maxRecDepth 100000

set_option maxHeartbeats 16000000 in
theorem walk (A : Option Addr) (n c : Nat) (zs : List Int) (w : World) (h : SB w w.heap.size A n c zs) :
    Calls Try.prog 11 #[.slice A n c] w fun e w' => e = .returned (.bool true) ∧ Below w.heap.size w w' := by
  have hm := h.max
  have hcap := h.cap
  unfold maxLen at hm
  have HS0 := Lib.hid h
  clear h
  by_cases hbig : 1048576 < (n : Int)
  · go_enter Try.func11, Try.ntmps11
    go_wp2
    go_ret
    exact ⟨rfl, Below.refl _ _⟩
  go_enter Try.func11, Try.ntmps11
  go_wp2_with fail
  refine (drawDiffEnums_s A n c zs _ HS0.out).mono ?_
  rintro e w1 ⟨Aa, ca, dsa, Ab, cb, dsb, rfl, hna, hnb, hsma, hsmb, hsa, hsb, hb⟩
  have HB_1 := Lib.hid hb
  have Sa_1 := Lib.hid hsa
  have HSMa := Lib.hid hsma
  have HOKa : Hid (∀ d ∈ dsa, d.ok) := Lib.hid (fun d hd => small_ok (hsma d hd))
  have Sb_1 := Lib.hid hsb
  have HSMb := Lib.hid hsmb
  have HOKb : Hid (∀ d ∈ dsb, d.ok) := Lib.hid (fun d hd => small_ok (hsmb d hd))
  clear hb hsa hsma hsb hsmb
  obtain ⟨w2, hw⟩ : ∃ W : World, W = ((w1.alloc (.cells #[.slice Aa dsa.length ca] 58)).alloc (.cells #[.slice Ab dsb.length cb] 58)) := ⟨_, rfl⟩
  have hb : Below w1.heap.size w1 w2 := by rw [hw]; exact (((Below.refl _ _).alloc (by first | exact Nat.le_refl _ | (simp; done) | (simp; omega)) _).alloc (by first | exact Nat.le_refl _ | (simp; done) | (simp; omega)) _)
  have Sa_2 := Lib.hid ((Sa_1.out.below hb).call hb.size)
  have Sb_2 := Lib.hid ((Sb_1.out.below hb).call hb.size)
  have HB_2 : Hid (Below w.heap.size w w2) := Lib.hid (HB_1.out.trans (hb.mono HB_1.out.size))
  have ba_2 : w2.cell? ⟨w1.heap.size, 0, none⟩ = some (.slice Aa dsa.length ca) := by rw [hw]; simp [go_sem]
  have bb_2 : w2.cell? ⟨w1.heap.size + 1, 0, none⟩ = some (.slice Ab dsb.length cb) := by rw [hw]; simp [go_sem]
  have lf_ba : ((w1.alloc (.cells #[.slice Aa dsa.length ca] 58)).alloc (.cells #[.slice Ab dsb.length cb] 58)).cell? ⟨w1.heap.size, 0, none⟩ = some (.slice Aa dsa.length ca) := by rw [← hw]; exact ba_2
  have lf_bb : ((w1.alloc (.cells #[.slice Aa dsa.length ca] 58)).alloc (.cells #[.slice Ab dsb.length cb] 58)).cell? ⟨w1.heap.size + 1, 0, none⟩ = some (.slice Ab dsb.length cb) := by rw [← hw]; exact bb_2
  have HW2 : Hid (((w1.alloc (.cells #[.slice Aa dsa.length ca] 58)).alloc (.cells #[.slice Ab dsb.length cb] 58)) = w2) := Lib.hid hw.symm
  clear hb hw Sa_1 Sb_1 HB_1
  obtain ⟨cs, hcs⟩ : ∃ cs, mDiffE dsa dsb = cs := ⟨_, rfl⟩
  have HCS := Lib.hid hcs
  have OKC : Hid (∀ c ∈ cs, c.ok) := Lib.hid (by rw [← hcs]; exact mDiffE_ok HOKa.out HOKb.out)
  have HIM : Hid (∀ (A B : Option Addr) (n c m e : Nat) (w : World), SD w w.heap.size A n c dsa → SD w w.heap.size B m e dsb → Calls Try.prog 55 #[.agg #[.slice A n c], .agg #[.slice B m e]] w (FreshK cs w)) := Lib.hid (by rw [← hcs]; exact fun A B n c m e w h1 h2 => implDiff_any dsa dsb A B n c m e w h1 h2)
  have HSP : Hid (∀ (A B : Option Addr) (n c m e : Nat) (w : World), SD w w.heap.size A n c dsa → SD w w.heap.size B m e dsb → Calls Try.prog 57 #[.agg #[.slice A n c], .agg #[.slice B m e]] w (FreshK cs w)) := Lib.hid (by rw [← hcs]; exact fun A B n c m e w h1 h2 => specDiff_any dsa dsb A B n c m e w h1 h2)
  unfold FreshK at HIM HSP
  clear hcs
  obtain ⟨va, hva⟩ : ∃ va, vEnum dsa = va := ⟨_, rfl⟩
  obtain ⟨vb, hvb⟩ : ∃ vb, vEnum dsb = vb := ⟨_, rfl⟩
  have HVA := Lib.hid hva
  have HVB := Lib.hid hvb
  clear hva hvb
  go_wp2_with fail
  rw [HW2.out]
  clear lf_ba lf_bb
  refine (HIM.out _ _ _ _ _ _ _ Sa_2.out Sb_2.out).mono ?_
  rintro e w3 ⟨Ak, ck, rfl, ho, hb⟩
  have ba_3 := keep1 hb ba_2
  have bb_3 := keep1 hb bb_2
  have Sa_3 := Lib.hid ((Sa_2.out.below hb).call hb.size)
  have Sb_3 := Lib.hid ((Sb_2.out.below hb).call hb.size)
  have HB_3 : Hid (Below w.heap.size w w3) := Lib.hid (HB_2.out.trans (hb.mono HB_2.out.size))
  have Sk_3 := Lib.hid (sk_of_own ho OKC.out)
  clear hb ho ba_2 bb_2 Sa_2 Sb_2 HB_2
  go_wp2_with fail
  refine (HSP.out _ _ _ _ _ _ _ Sa_3.out Sb_3.out).mono ?_
  rintro e w4 ⟨Aw, cw, rfl, ho, hb⟩
  have ba_4 := keep1 hb ba_3
  have bb_4 := keep1 hb bb_3
  have Sa_4 := Lib.hid ((Sa_3.out.below hb).call hb.size)
  have Sb_4 := Lib.hid ((Sb_3.out.below hb).call hb.size)
  have Sk_4 := Lib.hid ((Sk_3.out.below hb).call hb.size)
  have HB_4 : Hid (Below w.heap.size w w4) := Lib.hid (HB_3.out.trans (hb.mono HB_3.out.size))
  have Sw_4 := Lib.hid (sk_of_own ho OKC.out)
  clear hb ho ba_3 bb_3 Sa_3 Sb_3 Sk_3 HB_3
  go_wp2_with fail
  refine (equalChanges_any cs _ _ _ _ _ _ _ Sk_4.out Sw_4.out).mono ?_
  rintro e w5 ⟨rfl, hb⟩
  have ba_5 := keep1 hb ba_4
  have bb_5 := keep1 hb bb_4
  have Sa_5 := Lib.hid ((Sa_4.out.below hb).call hb.size)
  have Sb_5 := Lib.hid ((Sb_4.out.below hb).call hb.size)
  have Sk_5 := Lib.hid ((Sk_4.out.below hb).call hb.size)
  have Sw_5 := Lib.hid ((Sw_4.out.below hb).call hb.size)
  have HB_5 : Hid (Below w.heap.size w w5) := Lib.hid (HB_4.out.trans (hb.mono HB_4.out.size))
  clear hb  ba_4 bb_4 Sa_4 Sb_4 Sk_4 Sw_4 HB_4
  go_wp2_with fail
  refine (implVE_v dsa _ _ _ _ Sa_5.out HVA.out).mono ?_
  rintro e w6 ⟨rfl, hb⟩
  have ba_6 := keep1 hb ba_5
  have bb_6 := keep1 hb bb_5
  have Sa_6 := Lib.hid ((Sa_5.out.below hb).call hb.size)
  have Sb_6 := Lib.hid ((Sb_5.out.below hb).call hb.size)
  have Sk_6 := Lib.hid ((Sk_5.out.below hb).call hb.size)
  have Sw_6 := Lib.hid ((Sw_5.out.below hb).call hb.size)
  have HB_6 : Hid (Below w.heap.size w w6) := Lib.hid (HB_5.out.trans (hb.mono HB_5.out.size))
  clear hb  ba_5 bb_5 Sa_5 Sb_5 Sk_5 Sw_5 HB_5
  clear Sw_6
  cases va
  · skip
    go_wp2_with fail
    refine (HSP.out _ _ _ _ _ _ _ Sa_6.out Sb_6.out).mono ?_
    rintro e w7 ⟨Av, cv, rfl, ho, hb⟩
    have ba_7 := keep1 hb ba_6
    have bb_7 := keep1 hb bb_6
    have Sa_7 := Lib.hid ((Sa_6.out.below hb).call hb.size)
    have Sb_7 := Lib.hid ((Sb_6.out.below hb).call hb.size)
    have Sk_7 := Lib.hid ((Sk_6.out.below hb).call hb.size)
    have HB_7 : Hid (Below w.heap.size w w7) := Lib.hid (HB_6.out.trans (hb.mono HB_6.out.size))
    have Sv_7 := Lib.hid (sk_of_own ho OKC.out)
    clear hb ho ba_6 bb_6 Sa_6 Sb_6 Sk_6 HB_6
    go_wp2_with fail
    refine (equalChanges_any cs _ _ _ _ _ _ _ Sk_7.out Sv_7.out).mono ?_
    rintro e w8 ⟨rfl, hb⟩
    have ba_8 := keep1 hb ba_7
    have bb_8 := keep1 hb bb_7
    have Sa_8 := Lib.hid ((Sa_7.out.below hb).call hb.size)
    have Sb_8 := Lib.hid ((Sb_7.out.below hb).call hb.size)
    have Sk_8 := Lib.hid ((Sk_7.out.below hb).call hb.size)
    have Sv_8 := Lib.hid ((Sv_7.out.below hb).call hb.size)
    have HB_8 : Hid (Below w.heap.size w w8) := Lib.hid (HB_7.out.trans (hb.mono HB_7.out.size))
    clear hb  ba_7 bb_7 Sa_7 Sb_7 Sk_7 Sv_7 HB_7
    go_wp2
    go_ret
    exact ⟨by first | rfl | kernel_rfl | (go_simp; done), HB_8.out⟩
  go_wp2_with fail
  refine (implVE_v dsb _ _ _ _ Sb_6.out HVB.out).mono ?_
  rintro e w7 ⟨rfl, hb⟩
  have ba_7 := keep1 hb ba_6
  have bb_7 := keep1 hb bb_6
  have Sa_7 := Lib.hid ((Sa_6.out.below hb).call hb.size)
  have Sb_7 := Lib.hid ((Sb_6.out.below hb).call hb.size)
  have Sk_7 := Lib.hid ((Sk_6.out.below hb).call hb.size)
  have HB_7 : Hid (Below w.heap.size w w7) := Lib.hid (HB_6.out.trans (hb.mono HB_6.out.size))
  clear hb  ba_6 bb_6 Sa_6 Sb_6 Sk_6 HB_6
  cases vb
  · skip
    go_wp2_with fail
    refine (HSP.out _ _ _ _ _ _ _ Sa_7.out Sb_7.out).mono ?_
    rintro e w8 ⟨Av, cv, rfl, ho, hb⟩
    have ba_8 := keep1 hb ba_7
    have bb_8 := keep1 hb bb_7
    have Sa_8 := Lib.hid ((Sa_7.out.below hb).call hb.size)
    have Sb_8 := Lib.hid ((Sb_7.out.below hb).call hb.size)
    have Sk_8 := Lib.hid ((Sk_7.out.below hb).call hb.size)
    have HB_8 : Hid (Below w.heap.size w w8) := Lib.hid (HB_7.out.trans (hb.mono HB_7.out.size))
    have Sv_8 := Lib.hid (sk_of_own ho OKC.out)
    clear hb ho ba_7 bb_7 Sa_7 Sb_7 Sk_7 HB_7
    go_wp2_with fail
    refine (equalChanges_any cs _ _ _ _ _ _ _ Sk_8.out Sv_8.out).mono ?_
    rintro e w9 ⟨rfl, hb⟩
    have ba_9 := keep1 hb ba_8
    have bb_9 := keep1 hb bb_8
    have Sa_9 := Lib.hid ((Sa_8.out.below hb).call hb.size)
    have Sb_9 := Lib.hid ((Sb_8.out.below hb).call hb.size)
    have Sk_9 := Lib.hid ((Sk_8.out.below hb).call hb.size)
    have Sv_9 := Lib.hid ((Sv_8.out.below hb).call hb.size)
    have HB_9 : Hid (Below w.heap.size w w9) := Lib.hid (HB_8.out.trans (hb.mono HB_8.out.size))
    clear hb  ba_8 bb_8 Sa_8 Sb_8 Sk_8 Sv_8 HB_8
    go_wp2
    go_ret
    exact ⟨by first | rfl | kernel_rfl | (go_simp; done), HB_9.out⟩
  obtain ⟨es, he1, he2⟩ := diff_law HVA.out HVB.out
  have hE : mDiffE dsa dsb = mDiff dsa dsb := mDiffE_yes HVA.out HVB.out
  have hlen := diff_len dsa dsb
  obtain ⟨v, hv⟩ : ∃ v, mSame dsa dsb = v := ⟨_, rfl⟩
  have HV := Lib.hid hv
  have hz : ((cs.length : Int) == 0) = v := by
    rw [← hv, ← HCS.out, hE]; unfold mSame; rw [HVA.out, HVB.out, Bool.eq_iff_iff, beq_iff_eq]; simp
  rw [← hE, HCS.out] at he1 hlen
  have OKE : Hid (∀ d ∈ es, d.ok) := Lib.hid (by have := (mApply_ok (cs := cs) HOKa.out OKC.out).2; rw [he1] at this; exact this)
  have HAP : Hid (∀ (A B : Option Addr) (n c m e : Nat) (w : World), SD w w.heap.size A n c dsa → SK w w.heap.size B m e cs → Calls Try.prog 59 #[.agg #[.slice A n c], .slice B m e] w (EnumR es true w)) := Lib.hid (fun A B n c m e w h1 h2 => by have := implApply_any dsa cs A B n c m e w h1 h2; rw [he1] at this; exact this)
  unfold EnumR at HAP
  have HSE := Lib.hid he2
  have hal := vEnum_len HVA.out
  have hbl := vEnum_len HVB.out
  have hw1 : IntKind.i64.wrap ((dsa.length : Int) + (dsb.length : Int)) = (dsa.length : Int) + (dsb.length : Int) := by rw [IntKind.wrap_i64]; omega
  have hle : (cs.length : Int) ≤ (dsa.length : Int) + (dsb.length : Int) := by omega
  have HZ := Lib.hid hz
  clear hv he1 he2 hE hlen hz HIM HSP HCS
  go_wp2_with fail
  refine (HAP.out _ _ _ _ _ _ _ Sa_7.out Sk_7.out).mono ?_
  rintro e w8 ⟨Ag, cg, rfl, ho, hb⟩
  have ba_8 := keep1 hb ba_7
  have bb_8 := keep1 hb bb_7
  have Sa_8 := Lib.hid ((Sa_7.out.below hb).call hb.size)
  have Sb_8 := Lib.hid ((Sb_7.out.below hb).call hb.size)
  have Sk_8 := Lib.hid ((Sk_7.out.below hb).call hb.size)
  have HB_8 : Hid (Below w.heap.size w w8) := Lib.hid (HB_7.out.trans (hb.mono HB_7.out.size))
  have Sg_8 := Lib.hid (sd_of_own ho OKE.out)
  clear hb ho ba_7 bb_7 Sa_7 Sb_7 Sk_7 HB_7
  obtain ⟨w9, hw⟩ : ∃ W : World, W = (w8.alloc (.cells #[.slice Ag es.length cg] 58)) := ⟨_, rfl⟩
  have hb : Below w8.heap.size w8 w9 := by rw [hw]; exact ((Below.refl _ _).alloc (by first | exact Nat.le_refl _ | (simp; done) | (simp; omega)) _)
  have ba_9 := keep1 hb ba_8
  have bb_9 := keep1 hb bb_8
  have Sa_9 := Lib.hid ((Sa_8.out.below hb).call hb.size)
  have Sb_9 := Lib.hid ((Sb_8.out.below hb).call hb.size)
  have Sk_9 := Lib.hid ((Sk_8.out.below hb).call hb.size)
  have Sg_9 := Lib.hid ((Sg_8.out.below hb).call hb.size)
  have HB_9 : Hid (Below w.heap.size w w9) := Lib.hid (HB_8.out.trans (hb.mono HB_8.out.size))
  have bg_9 : w9.cell? ⟨w8.heap.size, 0, none⟩ = some (.slice Ag es.length cg) := by rw [hw]; simp [go_sem]
  have lf_ba : (w8.alloc (.cells #[.slice Ag es.length cg] 58)).cell? ⟨w1.heap.size, 0, none⟩ = some (.slice Aa dsa.length ca) := by rw [← hw]; exact ba_9
  have lf_bb : (w8.alloc (.cells #[.slice Ag es.length cg] 58)).cell? ⟨w1.heap.size + 1, 0, none⟩ = some (.slice Ab dsb.length cb) := by rw [← hw]; exact bb_9
  have lf_bg : (w8.alloc (.cells #[.slice Ag es.length cg] 58)).cell? ⟨w8.heap.size, 0, none⟩ = some (.slice Ag es.length cg) := by rw [← hw]; exact bg_9
  have HW9 : Hid ((w8.alloc (.cells #[.slice Ag es.length cg] 58)) = w9) := Lib.hid hw.symm
  clear hb hw ba_8 bb_8 Sa_8 Sb_8 Sk_8 Sg_8 HB_8
  go_wp2_with fail
  rw [HW9.out]
  clear lf_ba lf_bb lf_bg
  refine (implSame_v es dsb _ _ _ _ _ _ _ Sg_9.out Sb_9.out HSE.out).mono ?_
  rintro e w10 ⟨rfl, hb⟩
  have ba_10 := keep1 hb ba_9
  have bb_10 := keep1 hb bb_9
  have bg_10 := keep1 hb bg_9
  have Sa_10 := Lib.hid ((Sa_9.out.below hb).call hb.size)
  have Sb_10 := Lib.hid ((Sb_9.out.below hb).call hb.size)
  have Sk_10 := Lib.hid ((Sk_9.out.below hb).call hb.size)
  have Sg_10 := Lib.hid ((Sg_9.out.below hb).call hb.size)
  have HB_10 : Hid (Below w.heap.size w w10) := Lib.hid (HB_9.out.trans (hb.mono HB_9.out.size))
  clear hb  ba_9 bb_9 bg_9 Sa_9 Sb_9 Sk_9 Sg_9 HB_9
  have hz := HZ.out
  clear HZ
  go_wp2_with fail
  refine (implSame_v dsa dsb _ _ _ _ _ _ _ Sa_10.out Sb_10.out HV.out).mono ?_
  rintro e w11 ⟨rfl, hb⟩
  have ba_11 := keep1 hb ba_10
  have bb_11 := keep1 hb bb_10
  have bg_11 := keep1 hb bg_10
  have Sa_11 := Lib.hid ((Sa_10.out.below hb).call hb.size)
  have Sb_11 := Lib.hid ((Sb_10.out.below hb).call hb.size)
  have Sk_11 := Lib.hid ((Sk_10.out.below hb).call hb.size)
  have Sg_11 := Lib.hid ((Sg_10.out.below hb).call hb.size)
  have HB_11 : Hid (Below w.heap.size w w11) := Lib.hid (HB_10.out.trans (hb.mono HB_10.out.size))
  clear hb  ba_10 bb_10 bg_10 Sa_10 Sb_10 Sk_10 Sg_10 HB_10
  cases v
  all_goals
    go_wp2
    go_ret
    exact ⟨by first | rfl | kernel_rfl | (go_simp; done), HB_11.out⟩

theorem lifted (os : Os) (started : os.Started) (H : Type) (enc : TypeId × Value → H) :
    ReturnsInHanded {} Try.checked os 11 .any (Rows.fnDiffEnumsSpec.pre6 enc Try.prog Try.f11 Rows.fnDiffEnumsRow.domain false) (Rows.fnDiffEnumsSpec.post enc Try.prog Try.f11 false true false false) := by
  refine returnsInHanded_of_change (C := Try.checked) own started (by kernel_rfl) Try.func11
    (ChangeSpec.witness6 (enc := enc) (C := Try.checked) false ⟨#[], #[.slice none 0 0], []⟩ 8 (by kernel_rfl) (by kernel_rfl) (by kernel_rfl) (by kernel_rfl)) ?_
  intro W base args ds gs before hval0 hW hcnd _
  have hval : ∀ (j : Nat) t v, Try.f11.params[j]? = some t → args[j]? = some v → Value.okWide Try.prog W .any base t v := hval0
  have hW' := hW
  obtain ⟨p, q, hA0, hV, rfl, hfz, hnd⟩ := hW
  have hA : DataW.TrodAll enc Try.prog W 0 (fun _ => true) true Try.f11.params.toList args.toList ds p := hA0
  rw [Try.params11] at hA hval
  obtain ⟨v0, vs0, d0, ds0, p0, q0, hargs, rfl, rfl, h0, r0⟩ := trodAll_cons hA
  obtain ⟨rfl, rfl, rfl⟩ := trodAll_nil r0
  obtain rfl : args = #[v0] := by cases args; simp_all
  obtain ⟨rfl, rfl⟩ := trodVars_none hV
  have k0 := h0
  have lt0 : ∀ x ∈ p0, x.block < W.heap.size := by obtain ⟨m, hm⟩ := k0; exact DataW.trod_lt m _ _ _ hm
  obtain ⟨A0, n0, c0, l0, rfl, w0⟩ := open_code (hval 0 22 v0 rfl rfl) h0
  clear hA0 hval0
  refine (walk A0 n0 c0 l0 W w0).mono fun e W' ⟨he, bel⟩ => ?_
  subst he
  exact ⟨_, rfl, _, _, _, [], _, [], hW', trodAll_mk1 (shut_bool Try.underlying4 _), (trodAll_cons_mk (Below.trod laidOut (by kernel_rfl) (of_decide_eq_true (by kernel_rfl)) k0 bel lt0) trodAll_mk0), rfl, bel.frame _, fun h => by cases h⟩

theorem over : Rows.fnDiffEnumsRow.holds Try.pinned (OpenSpec.ofChange Rows.fnDiffEnumsSpec) :=
  OpenClaim.holds_of_wide 11 Try.f11 rfl rfl rfl rfl rfl rfl rfl ⟨rfl, rfl, rfl, rfl, rfl⟩ rfl rfl rfl rfl rfl (by kernel_rfl) Try.func11 (by kernel_rfl)
    (of_decide_eq_true (by kernel_rfl)) (by unfold Func.isWrapper; first | (rw [if_pos (by decide +kernel)]; kernel_rfl) | (rw [if_neg (by decide +kernel)]; exact ⟨rfl, rfl⟩))
    (fun os started H enc _ => lifted os started H enc)

theorem proved : Rows.FnDiffEnumsSaid := over
end Go.Proofs.Ytbkfagncoekbkaa.fnDiffEnums
