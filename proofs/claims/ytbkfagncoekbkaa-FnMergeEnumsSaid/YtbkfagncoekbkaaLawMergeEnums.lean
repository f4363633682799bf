/-
For every code the law of merged enumerations that tell both returns true: the program's MergeEnums answers as its model, has the names of both with their values, and the other way round it means the same.
Conditions: none.
-/
import Derived.Test.YtbkfagncoekbkaaGenEn2
import Derived.Test.YtbkfagncoekbkaaOpenC
import Derived.Test.YtbkfagncoekbkaaLPa
import Derived.Test.YtbkfagncoekbkaaLFun
import Derived.Test.YtbkfagncoekbkaaLEq
import Derived.Test.YtbkfagncoekbkaaMergeS
import Derived.Test.YtbkfagncoekbkaaMergeI
import Derived.Test.YtbkfagncoekbkaaSameI
import Derived.Test.YtbkfagncoekbkaaEdit2
import Derived.Test.YtbkfagncoekbkaaBaseB
namespace Go.Proofs.Ytbkfagncoekbkaa.fnMergeEnums
open Go.ChangeShapes Go.WideShapes Go.ChangeAt Go.RowKit
open Go.ChangeMaps (open_string shut_string)
set_option linter.unusedVariables false
set_option linter.unusedSimpArgs false
set_option maxRecDepth 100000

set_option maxHeartbeats 16000000 in
theorem walk (A : Option Addr) (n c : Nat) (zs : List Int) (w : World) (h : SB w w.heap.size A n c zs) :
    Calls Try.prog 10 #[.slice A n c] w fun e w' => e = .returned (.bool true) ∧ Below w.heap.size w w' := by
  have hm := h.max
  have hcap := h.cap
  unfold maxLen at hm
  have HS0 := Lib.hid h
  clear h
  by_cases hbig : 1048576 < (n : Int)
  · go_enter Try.func10, Try.ntmps10
    go_wp2
    go_ret
    exact ⟨rfl, Below.refl _ _⟩
  go_enter Try.func10, Try.ntmps10
  go_wp2_with fail
  refine (drawMergeEnums_s A n c zs _ HS0.out).mono ?_
  rintro e w1 ⟨Aa, ca, dsa, Ab, cb, dsb, rfl, hna, hnb, hsma, hsmb, hsa, hsb, hb⟩
  have HB_1 := Lib.hid hb
  have Sa_1 := Lib.hid hsa
  have HSMa := Lib.hid hsma
  have HOKa : Hid (∀ d ∈ dsa, d.ok) := Lib.hid (fun d hd => small_ok (hsma d hd))
  have Sb_1 := Lib.hid hsb
  have HSMb := Lib.hid hsmb
  have HOKb : Hid (∀ d ∈ dsb, d.ok) := Lib.hid (fun d hd => small_ok (hsmb d hd))
  clear hb hsa hsma hsb hsmb
  obtain ⟨w2, hw⟩ : ∃ W : World, W = ((w1.alloc (.cells #[.slice Aa dsa.length ca] 58)).alloc (.cells #[.slice Ab dsb.length cb] 58)) := ⟨_, rfl⟩
  have hb : Below w1.heap.size w1 w2 := by rw [hw]; exact (((Below.refl _ _).alloc (by first | exact Nat.le_refl _ | (simp; done) | (simp; omega)) _).alloc (by first | exact Nat.le_refl _ | (simp; done) | (simp; omega)) _)
  have Sa_2 := Lib.hid ((Sa_1.out.below hb).call hb.size)
  have Sb_2 := Lib.hid ((Sb_1.out.below hb).call hb.size)
  have HB_2 : Hid (Below w.heap.size w w2) := Lib.hid (HB_1.out.trans (hb.mono HB_1.out.size))
  have ba_2 : w2.cell? ⟨w1.heap.size, 0, none⟩ = some (.slice Aa dsa.length ca) := by rw [hw]; simp [go_sem]
  have bb_2 : w2.cell? ⟨w1.heap.size + 1, 0, none⟩ = some (.slice Ab dsb.length cb) := by rw [hw]; simp [go_sem]
  have lf_ba : ((w1.alloc (.cells #[.slice Aa dsa.length ca] 58)).alloc (.cells #[.slice Ab dsb.length cb] 58)).cell? ⟨w1.heap.size, 0, none⟩ = some (.slice Aa dsa.length ca) := by rw [← hw]; exact ba_2
  have lf_bb : ((w1.alloc (.cells #[.slice Aa dsa.length ca] 58)).alloc (.cells #[.slice Ab dsb.length cb] 58)).cell? ⟨w1.heap.size + 1, 0, none⟩ = some (.slice Ab dsb.length cb) := by rw [← hw]; exact bb_2
  have HW2 : Hid (((w1.alloc (.cells #[.slice Aa dsa.length ca] 58)).alloc (.cells #[.slice Ab dsb.length cb] 58)) = w2) := Lib.hid hw.symm
  clear hb hw Sa_1 Sb_1 HB_1
  have hml := mMerge_len dsa dsb
  have OKM : Hid (∀ d ∈ (mMerge dsa dsb).getD [], d.ok) := Lib.hid (fun d hd => by rcases mMerge_mem hd with h | h; exact HOKa.out d h; exact HOKb.out d h)
  have HFIT : Hid ((mMerge dsa dsb).isSome = true → MergeL dsa dsb ((mMerge dsa dsb).getD [])) := Lib.hid (fun h => by obtain ⟨es, he⟩ := Option.isSome_iff_exists.1 h; rw [he]; exact merge_law he)
  have HIM : Hid (∀ (A B : Option Addr) (n c m e : Nat) (w : World), SD w w.heap.size A n c dsa → SD w w.heap.size B m e dsb → Calls Try.prog 50 #[.agg #[.slice A n c], .agg #[.slice B m e]] w (EnumP (mMerge dsa dsb) w)) := Lib.hid (fun A B n c m e w h1 h2 => implMerge_any dsa dsb A B n c m e w h1 h2)
  have HSP : Hid (∀ (A B : Option Addr) (n c m e : Nat) (w : World), SD w w.heap.size A n c dsa → SD w w.heap.size B m e dsb → Calls Try.prog 51 #[.agg #[.slice A n c], .agg #[.slice B m e]] w (EnumP (mMerge dsa dsb) w)) := Lib.hid (fun A B n c m e w h1 h2 => specMerge_any dsa dsb A B n c m e w h1 h2)
  unfold EnumP at HIM HSP
  generalize (mMerge dsa dsb).getD [] = ms at *
  generalize (mMerge dsa dsb).isSome = ok at *
  go_wp2_with fail
  rw [HW2.out]
  clear lf_ba lf_bb
  refine (HIM.out _ _ _ _ _ _ _ Sa_2.out Sb_2.out).mono ?_
  rintro e w3 ⟨Ag, cg, rfl, ho, hb⟩
  have ba_3 := keep1 hb ba_2
  have bb_3 := keep1 hb bb_2
  have Sa_3 := Lib.hid ((Sa_2.out.below hb).call hb.size)
  have Sb_3 := Lib.hid ((Sb_2.out.below hb).call hb.size)
  have HB_3 : Hid (Below w.heap.size w w3) := Lib.hid (HB_2.out.trans (hb.mono HB_2.out.size))
  have Sg_3 := Lib.hid (sd_of_own ho OKM.out)
  clear hb ho ba_2 bb_2 Sa_2 Sb_2 HB_2
  obtain ⟨w4, hw⟩ : ∃ W : World, W = (w3.alloc (.cells #[.slice Ag ms.length cg] 58)) := ⟨_, rfl⟩
  have hb : Below w3.heap.size w3 w4 := by rw [hw]; exact ((Below.refl _ _).alloc (by first | exact Nat.le_refl _ | (simp; done) | (simp; omega)) _)
  have ba_4 := keep1 hb ba_3
  have bb_4 := keep1 hb bb_3
  have Sa_4 := Lib.hid ((Sa_3.out.below hb).call hb.size)
  have Sb_4 := Lib.hid ((Sb_3.out.below hb).call hb.size)
  have Sg_4 := Lib.hid ((Sg_3.out.below hb).call hb.size)
  have HB_4 : Hid (Below w.heap.size w w4) := Lib.hid (HB_3.out.trans (hb.mono HB_3.out.size))
  have bg_4 : w4.cell? ⟨w3.heap.size, 0, none⟩ = some (.slice Ag ms.length cg) := by rw [hw]; simp [go_sem]
  have lf_ba : (w3.alloc (.cells #[.slice Ag ms.length cg] 58)).cell? ⟨w1.heap.size, 0, none⟩ = some (.slice Aa dsa.length ca) := by rw [← hw]; exact ba_4
  have lf_bb : (w3.alloc (.cells #[.slice Ag ms.length cg] 58)).cell? ⟨w1.heap.size + 1, 0, none⟩ = some (.slice Ab dsb.length cb) := by rw [← hw]; exact bb_4
  have lf_bg : (w3.alloc (.cells #[.slice Ag ms.length cg] 58)).cell? ⟨w3.heap.size, 0, none⟩ = some (.slice Ag ms.length cg) := by rw [← hw]; exact bg_4
  have HW4 : Hid ((w3.alloc (.cells #[.slice Ag ms.length cg] 58)) = w4) := Lib.hid hw.symm
  clear hb hw ba_3 bb_3 Sa_3 Sb_3 Sg_3 HB_3
  go_wp2_with fail
  rw [HW4.out]
  clear lf_ba lf_bb lf_bg
  refine (HSP.out _ _ _ _ _ _ _ Sa_4.out Sb_4.out).mono ?_
  rintro e w5 ⟨Aw, cw, rfl, ho, hb⟩
  have ba_5 := keep1 hb ba_4
  have bb_5 := keep1 hb bb_4
  have bg_5 := keep1 hb bg_4
  have Sa_5 := Lib.hid ((Sa_4.out.below hb).call hb.size)
  have Sb_5 := Lib.hid ((Sb_4.out.below hb).call hb.size)
  have Sg_5 := Lib.hid ((Sg_4.out.below hb).call hb.size)
  have HB_5 : Hid (Below w.heap.size w w5) := Lib.hid (HB_4.out.trans (hb.mono HB_4.out.size))
  have Sw_5 := Lib.hid (sd_of_own ho OKM.out)
  clear hb ho ba_4 bb_4 bg_4 Sa_4 Sb_4 Sg_4 HB_4
  obtain ⟨w6, hw⟩ : ∃ W : World, W = (w5.alloc (.cells #[.slice Aw ms.length cw] 58)) := ⟨_, rfl⟩
  have hb : Below w5.heap.size w5 w6 := by rw [hw]; exact ((Below.refl _ _).alloc (by first | exact Nat.le_refl _ | (simp; done) | (simp; omega)) _)
  have ba_6 := keep1 hb ba_5
  have bb_6 := keep1 hb bb_5
  have bg_6 := keep1 hb bg_5
  have Sa_6 := Lib.hid ((Sa_5.out.below hb).call hb.size)
  have Sb_6 := Lib.hid ((Sb_5.out.below hb).call hb.size)
  have Sg_6 := Lib.hid ((Sg_5.out.below hb).call hb.size)
  have Sw_6 := Lib.hid ((Sw_5.out.below hb).call hb.size)
  have HB_6 : Hid (Below w.heap.size w w6) := Lib.hid (HB_5.out.trans (hb.mono HB_5.out.size))
  have bw_6 : w6.cell? ⟨w5.heap.size, 0, none⟩ = some (.slice Aw ms.length cw) := by rw [hw]; simp [go_sem]
  have lf_ba : (w5.alloc (.cells #[.slice Aw ms.length cw] 58)).cell? ⟨w1.heap.size, 0, none⟩ = some (.slice Aa dsa.length ca) := by rw [← hw]; exact ba_6
  have lf_bb : (w5.alloc (.cells #[.slice Aw ms.length cw] 58)).cell? ⟨w1.heap.size + 1, 0, none⟩ = some (.slice Ab dsb.length cb) := by rw [← hw]; exact bb_6
  have lf_bg : (w5.alloc (.cells #[.slice Aw ms.length cw] 58)).cell? ⟨w3.heap.size, 0, none⟩ = some (.slice Ag ms.length cg) := by rw [← hw]; exact bg_6
  have lf_bw : (w5.alloc (.cells #[.slice Aw ms.length cw] 58)).cell? ⟨w5.heap.size, 0, none⟩ = some (.slice Aw ms.length cw) := by rw [← hw]; exact bw_6
  have HW6 : Hid ((w5.alloc (.cells #[.slice Aw ms.length cw] 58)) = w6) := Lib.hid hw.symm
  clear hb hw ba_5 bb_5 bg_5 Sa_5 Sb_5 Sg_5 Sw_5 HB_5
  go_wp2_with fail
  rw [HW6.out]
  clear lf_ba lf_bb lf_bg lf_bw
  refine (equalEnum_any ms _ _ _ _ _ _ _ Sg_6.out Sw_6.out).mono ?_
  rintro e w7 ⟨rfl, hb⟩
  have ba_7 := keep1 hb ba_6
  have bb_7 := keep1 hb bb_6
  have bg_7 := keep1 hb bg_6
  have bw_7 := keep1 hb bw_6
  have Sa_7 := Lib.hid ((Sa_6.out.below hb).call hb.size)
  have Sb_7 := Lib.hid ((Sb_6.out.below hb).call hb.size)
  have Sg_7 := Lib.hid ((Sg_6.out.below hb).call hb.size)
  have Sw_7 := Lib.hid ((Sw_6.out.below hb).call hb.size)
  have HB_7 : Hid (Below w.heap.size w w7) := Lib.hid (HB_6.out.trans (hb.mono HB_6.out.size))
  clear hb  ba_6 bb_6 bg_6 bw_6 Sa_6 Sb_6 Sg_6 Sw_6 HB_6
  cases ok
  · skip
    go_wp2_with fail
    refine (equalEnum_any ms _ _ _ _ _ _ _ Sg_7.out Sw_7.out).mono ?_
    rintro e w8 ⟨rfl, hb⟩
    have ba_8 := keep1 hb ba_7
    have bb_8 := keep1 hb bb_7
    have bg_8 := keep1 hb bg_7
    have bw_8 := keep1 hb bw_7
    have Sa_8 := Lib.hid ((Sa_7.out.below hb).call hb.size)
    have Sb_8 := Lib.hid ((Sb_7.out.below hb).call hb.size)
    have Sg_8 := Lib.hid ((Sg_7.out.below hb).call hb.size)
    have Sw_8 := Lib.hid ((Sw_7.out.below hb).call hb.size)
    have HB_8 : Hid (Below w.heap.size w w8) := Lib.hid (HB_7.out.trans (hb.mono HB_7.out.size))
    clear hb  ba_7 bb_7 bg_7 bw_7 Sa_7 Sb_7 Sg_7 Sw_7 HB_7
    go_wp2
    go_ret
    exact ⟨by first | rfl | kernel_rfl | (go_simp; done), HB_8.out⟩
  clear Sw_7
  clear bw_7
  have hF := HFIT.out rfl
  have HYES := Lib.hid hF.yes
  have HVE := Lib.hid hF.ve
  obtain ⟨es, he1, he2⟩ := hF.back
  have HSAME := Lib.hid he2
  have OKE : Hid (∀ d ∈ es, d.ok) := Lib.hid (fun d hd => by have h := mMerge_mem (a := dsb) (b := dsa) (x := d) (by rw [he1]; exact hd); rcases h with h | h; exact HOKb.out d h; exact HOKa.out d h)
  have HBK : Hid (∀ (A B : Option Addr) (n c m e : Nat) (w : World), SD w w.heap.size A n c dsb → SD w w.heap.size B m e dsa → Calls Try.prog 50 #[.agg #[.slice A n c], .agg #[.slice B m e]] w (EnumR es true w)) := Lib.hid (fun A B n c m e w h1 h2 => by have := implMerge_any dsb dsa A B n c m e w h1 h2; rw [he1] at this; exact this)
  unfold EnumR at HBK
  have OKL : Hid (∀ d ∈ dsa ++ dsb, d.ok) := Lib.hid (fun d hd => by rcases List.mem_append.1 hd with h | h; exact HOKa.out d h; exact HOKb.out d h)
  clear hF he1 he2 HFIT HIM HSP
  go_wp2_with fail
  refine (HBK.out _ _ _ _ _ _ _ Sb_7.out Sa_7.out).mono ?_
  rintro e w8 ⟨Ah, ch, rfl, ho, hb⟩
  have ba_8 := keep1 hb ba_7
  have bb_8 := keep1 hb bb_7
  have bg_8 := keep1 hb bg_7
  have Sa_8 := Lib.hid ((Sa_7.out.below hb).call hb.size)
  have Sb_8 := Lib.hid ((Sb_7.out.below hb).call hb.size)
  have Sg_8 := Lib.hid ((Sg_7.out.below hb).call hb.size)
  have HB_8 : Hid (Below w.heap.size w w8) := Lib.hid (HB_7.out.trans (hb.mono HB_7.out.size))
  have Sh_8 := Lib.hid (sd_of_own ho OKE.out)
  clear hb ho ba_7 bb_7 bg_7 Sa_7 Sb_7 Sg_7 HB_7
  obtain ⟨w9, hw⟩ : ∃ W : World, W = (w8.alloc (.cells #[.slice Ah es.length ch] 58)) := ⟨_, rfl⟩
  have hb : Below w8.heap.size w8 w9 := by rw [hw]; exact ((Below.refl _ _).alloc (by first | exact Nat.le_refl _ | (simp; done) | (simp; omega)) _)
  have ba_9 := keep1 hb ba_8
  have bb_9 := keep1 hb bb_8
  have bg_9 := keep1 hb bg_8
  have Sa_9 := Lib.hid ((Sa_8.out.below hb).call hb.size)
  have Sb_9 := Lib.hid ((Sb_8.out.below hb).call hb.size)
  have Sg_9 := Lib.hid ((Sg_8.out.below hb).call hb.size)
  have Sh_9 := Lib.hid ((Sh_8.out.below hb).call hb.size)
  have HB_9 : Hid (Below w.heap.size w w9) := Lib.hid (HB_8.out.trans (hb.mono HB_8.out.size))
  have bh_9 : w9.cell? ⟨w8.heap.size, 0, none⟩ = some (.slice Ah es.length ch) := by rw [hw]; simp [go_sem]
  have lf_ba : (w8.alloc (.cells #[.slice Ah es.length ch] 58)).cell? ⟨w1.heap.size, 0, none⟩ = some (.slice Aa dsa.length ca) := by rw [← hw]; exact ba_9
  have lf_bb : (w8.alloc (.cells #[.slice Ah es.length ch] 58)).cell? ⟨w1.heap.size + 1, 0, none⟩ = some (.slice Ab dsb.length cb) := by rw [← hw]; exact bb_9
  have lf_bg : (w8.alloc (.cells #[.slice Ah es.length ch] 58)).cell? ⟨w3.heap.size, 0, none⟩ = some (.slice Ag ms.length cg) := by rw [← hw]; exact bg_9
  have lf_bh : (w8.alloc (.cells #[.slice Ah es.length ch] 58)).cell? ⟨w8.heap.size, 0, none⟩ = some (.slice Ah es.length ch) := by rw [← hw]; exact bh_9
  have HW9 : Hid ((w8.alloc (.cells #[.slice Ah es.length ch] 58)) = w9) := Lib.hid hw.symm
  clear hb hw ba_8 bb_8 bg_8 Sa_8 Sb_8 Sg_8 Sh_8 HB_8
  go_wp2_with fail
  rw [HW9.out]
  clear lf_ba lf_bb lf_bg lf_bh
  obtain ⟨i0, hi, hz0, hz1, hz2⟩ := info_parts info_D
  have HI := Lib.hid (And.intro hi (And.intro hz0 (And.intro hz1 hz2)))
  clear hi hz0 hz1 hz2
  have HO0 : Hid ((w9.alloc (.cells #[] 37)).ownsRow w9.heap.size 37 2 (.slice (some ⟨w9.heap.size, 0, none⟩) 0 0) 0 []) := Lib.hid (World.ownsRow_made w9 #[] 0 (Nat.le_refl _) (by unfold maxLen; omega) rfl)
  have hbA : Below w9.heap.size w9 (w9.alloc (.cells #[] 37)) := (Below.refl _ _).alloc (Nat.le_refl _) _
  go_region_held3 (fun w' => w'.cell? ⟨w1.heap.size, 0, none⟩ = some (.slice Aa dsa.length ca) ∧ w'.cell? ⟨w1.heap.size + 1, 0, none⟩ = some (.slice Ab dsb.length cb) ∧ Below w9.heap.size w9 w')
    (first | exact ⟨ba_9, bb_9, Below.refl _ _⟩ | exact ⟨ba_9, bb_9, (Below.refl _ _).drew⟩ | exact ⟨keep1 hbA ba_9, keep1 hbA bb_9, hbA⟩ | exact ⟨keep1 hbA ba_9, keep1 hbA bb_9, hbA.drew⟩ | exact ⟨ba_80, bb_80, hb80⟩ | exact ⟨ba_81, bb_81, hb81⟩)
    (first
      | (refine step_app_src rfl _ _ _ rfl w9.heap.size _ i0 _ 2 24 Try.underlying23 HI.out rfl (by omega) (by omega) _ (0) _ rfl HO0.out _ _ _ _ rfl ((Sa_9.out.below hbA).sl.src (fun _ => rfl)) (one_D _) (by omega) (by first | exact hbA.size | (simp; done) | (simp; omega)) ?_; intro v' w80 ho80 hg80; rw [Nat.zero_add, List.nil_append] at ho80; obtain ⟨A80, c80, rfl⟩ := own_form ho80; have hb80 : Below w9.heap.size w9 w80 := (by first | exact hbA.drew.grown hg80 hbA.size (fun q hq => (HO0.out.lt q hq).1) | exact hbA.grown hg80 hbA.size (fun q hq => (HO0.out.lt q hq).1)); have ba_80 := keep1 hb80 ba_9; have bb_80 := keep1 hb80 bb_9)
      | (refine step_app_src rfl _ _ _ rfl w9.heap.size _ i0 _ 2 24 Try.underlying23 HI.out rfl (by omega) (by omega) _ (dsa.length) _ rfl ho80 _ _ _ _ rfl ((Sb_9.out.below hb80).sl.src (fun _ => rfl)) (one_D _) (by omega) (by first | exact hb80.size | (simp; done) | (simp; omega)) ?_; intro v' w81 ho81 hg81; skip; obtain ⟨A81, c81, rfl⟩ := own_form ho81; have hb81 : Below w9.heap.size w9 w81 := (by first | exact hb80.drew.grown hg81 hb80.size (fun q hq => (ho80.lt q hq).1) | exact hb80.grown hg81 hb80.size (fun q hq => (ho80.lt q hq).1)); have ba_81 := keep1 hb81 ba_9; have bb_81 := keep1 hb81 bb_9))
  have hb : Below w9.heap.size w9 w81 := hb81
  obtain ⟨w10, hwn⟩ : ∃ W : World, W = w81 := ⟨_, rfl⟩
  subst hwn
  have ba_10 := keep1 hb ba_9
  have bb_10 := keep1 hb bb_9
  have bg_10 := keep1 hb bg_9
  have bh_10 := keep1 hb bh_9
  have Sa_10 := Lib.hid ((Sa_9.out.below hb).call hb.size)
  have Sb_10 := Lib.hid ((Sb_9.out.below hb).call hb.size)
  have Sg_10 := Lib.hid ((Sg_9.out.below hb).call hb.size)
  have Sh_10 := Lib.hid ((Sh_9.out.below hb).call hb.size)
  have HB_10 : Hid (Below w.heap.size w w10) := Lib.hid (HB_9.out.trans (hb.mono HB_9.out.size))
  have Sl_10 := Lib.hid (sd_of_own (ds := dsa ++ dsb) (by have h := ho81; rw [← List.flatMap_append] at h; exact h) OKL.out)
  clear hb hb81 hb80 hbA ho80 ho81 hg80 hg81 HO0 ba_9 bb_9 bg_9 bh_9 Sa_9 Sb_9 Sg_9 Sh_9 HB_9 ba_80 ba_81 bb_80 bb_81
  have hll : (dsa ++ dsb).length = dsa.length + dsb.length := List.length_append
  have HLL := Lib.hid hll
  clear hll
  generalize hls : dsa ++ dsb = ls at *
  generalize hnn : dsa.length + dsb.length = nl at *
  have HY2 : Hid (∀ d ∈ ls, ∃ i, ∃ hi : i < ms.length, fidx (isNm d.name) ms = (i : Int) ∧ ms[i].val = d.val) := Lib.hid (fun d hd => HYES.out d (by rw [← hls] at hd; exact List.mem_append.1 hd))
  have hn50 : nl ≤ 50 := by omega
  clear hls hnn HYES OKL
  go_wp2_with fail
  go_loopw [12] (fun i wr => ∃ (k : Nat), k ≤ nl ∧ i = .int .i64 k ∧ Hid (Below w.heap.size w wr) ∧ Hid (wr.cell? ⟨w3.heap.size, 0, none⟩ = some (.slice Ag ms.length cg)) ∧ Hid (wr.cell? ⟨w8.heap.size, 0, none⟩ = some (.slice Ah es.length ch)) ∧ Hid (SD wr wr.heap.size Ag ms.length cg ms) ∧ Hid (SD wr wr.heap.size Ah es.length ch es) ∧ Hid (SD wr wr.heap.size A81 nl c81 ls)) (fun i _ => nl - (intOf i).toNat)
  case atStart => exact ⟨0, Nat.zero_le _, rfl, HB_10, Lib.hid bg_10, Lib.hid bh_10, Sg_10, Sh_10, Sl_10⟩
  case round =>
    obtain ⟨k, hk, rfl, hbel, hcg, hch, hsg, hsh, hsl⟩ := hrel
    clear ba_10 bb_10 bg_10 bh_10 HB_10 Sa_10 Sb_10 Sg_10 Sh_10 Sl_10
    have y1 := hcg.out
    have y2 := hch.out
    clear hcg hch
    by_cases hlt : k < nl
    · have hlt2 : k < ls.length := by have := HLL.out; omega
      obtain ⟨b, o, hA, hbb, x1, x2⟩ := hsl.out.at_ hlt2
      subst hA
      obtain ⟨i, hi, hfi, hvi⟩ := HY2.out _ (List.getElem_mem hlt2)
      have HFI := Lib.hid hfi
      have HVI := Lib.hid hvi
      clear hfi hvi
      generalize ls[k].name = t at *
      generalize ls[k].val = vl at *
      have hi1 : (k : Int) < (nl : Int) := by omega
      have hi0 : (0 : Int) ≤ (k : Int) := by omega
      obtain ⟨w60, hwn⟩ : ∃ W : World, W = wr := ⟨_, rfl⟩
      subst hwn
      have HB_60 := hbel
      have bg_60 := y1
      have bh_60 := y2
      have Sg_60 := hsg
      have Sh_60 := hsh
      have Sl_60 := hsl
      have x1_60 := x1
      have x2_60 := x2
      clear hbel y1 y2 hsg hsh hsl x1 x2
      go_wp2_with fail
      go_region_held3 (fun w' => w'.cell? ⟨w3.heap.size, 0, none⟩ = some (.slice Ag ms.length cg) ∧ w'.cell? ⟨b, o + k * 2, none⟩ = some (.string t))
        (first | go_keep | exact ⟨bg_60, x1_60⟩ | exact ⟨bg_61, x1_61⟩)
        (first
          | (go_at_call 47; refine (implValueOf_yes ms t _ _ _ _ (Sg_60.out.drewN 1) HVE.out i hi HFI.out).mono ?_; rintro e w61 ⟨rfl, hb⟩; replace hb : Below w60.heap.size w60 w61 := (by first | exact hb | exact undrew hb); have bg_61 := keep1 hb bg_60; have bh_61 := keep1 hb bh_60; have x1_61 := keep1 hb x1_60; have x2_61 := keep1 hb x2_60; have Sg_61 := Lib.hid ((Sg_60.out.below hb).call hb.size); have Sh_61 := Lib.hid ((Sh_60.out.below hb).call hb.size); have Sl_61 := Lib.hid ((Sl_60.out.below hb).call hb.size); have HB_61 : Hid (Below w.heap.size w w61) := Lib.hid (HB_60.out.trans (hb.mono HB_60.out.size)); clear hb))
      rw [HVI.out]
      go_wp2
      go_roundw
      case rel => exact ⟨k + 1, by omega, by go_num, HB_61, Lib.hid bg_61, Lib.hid bh_61, Sg_61, Sh_61, Sl_61⟩
      case measure => simp [intOf]; omega
    · obtain rfl : k = nl := by omega
      have hi9 : ¬ (k : Int) < (k : Int) := by omega
      clear hsl
      obtain ⟨w60, hwn⟩ : ∃ W : World, W = wr := ⟨_, rfl⟩
      subst hwn
      have HB_60 := hbel
      have bg_60 := y1
      have bh_60 := y2
      have Sg_60 := hsg
      have Sh_60 := hsh
      clear hbel y1 y2 hsg hsh
      go_wp2_with fail
      refine (implSame_v es ms _ _ _ _ _ _ _ Sh_60.out Sg_60.out HSAME.out).mono ?_
      rintro e w61 ⟨rfl, hb⟩
      have bg_61 := keep1 hb bg_60
      have bh_61 := keep1 hb bh_60
      have Sg_61 := Lib.hid ((Sg_60.out.below hb).call hb.size)
      have Sh_61 := Lib.hid ((Sh_60.out.below hb).call hb.size)
      have HB_61 : Hid (Below w.heap.size w w61) := Lib.hid (HB_60.out.trans (hb.mono HB_60.out.size))
      clear hb  bg_60 bh_60 Sg_60 Sh_60 HB_60
      go_wp2
      go_ret
      exact ⟨by first | rfl | kernel_rfl | (go_simp; done), HB_61.out⟩

theorem lifted (os : Os) (started : os.Started) (H : Type) (enc : TypeId × Value → H) :
    ReturnsInHanded {} Try.checked os 10 .any (Rows.fnMergeEnumsSpec.pre6 enc Try.prog Try.f10 Rows.fnMergeEnumsRow.domain false) (Rows.fnMergeEnumsSpec.post enc Try.prog Try.f10 false true false false) := by
  refine returnsInHanded_of_change (C := Try.checked) own started (by kernel_rfl) Try.func10
    (ChangeSpec.witness6 (enc := enc) (C := Try.checked) false ⟨#[], #[.slice none 0 0], []⟩ 8 (by kernel_rfl) (by kernel_rfl) (by kernel_rfl) (by kernel_rfl)) ?_
  intro W base args ds gs before hval0 hW hcnd _
  have hval : ∀ (j : Nat) t v, Try.f10.params[j]? = some t → args[j]? = some v → Value.okWide Try.prog W .any base t v := hval0
  have hW' := hW
  obtain ⟨p, q, hA0, hV, rfl, hfz, hnd⟩ := hW
  have hA : DataW.TrodAll enc Try.prog W 0 (fun _ => true) true Try.f10.params.toList args.toList ds p := hA0
  rw [Try.params10] at hA hval
  obtain ⟨v0, vs0, d0, ds0, p0, q0, hargs, rfl, rfl, h0, r0⟩ := trodAll_cons hA
  obtain ⟨rfl, rfl, rfl⟩ := trodAll_nil r0
  obtain rfl : args = #[v0] := by cases args; simp_all
  obtain ⟨rfl, rfl⟩ := trodVars_none hV
  have k0 := h0
  have lt0 : ∀ x ∈ p0, x.block < W.heap.size := by obtain ⟨m, hm⟩ := k0; exact DataW.trod_lt m _ _ _ hm
  obtain ⟨A0, n0, c0, l0, rfl, w0⟩ := open_code (hval 0 22 v0 rfl rfl) h0
  clear hA0 hval0
  refine (walk A0 n0 c0 l0 W w0).mono fun e W' ⟨he, bel⟩ => ?_
  subst he
  exact ⟨_, rfl, _, _, _, [], _, [], hW', trodAll_mk1 (shut_bool Try.underlying4 _), (trodAll_cons_mk (Below.trod laidOut (by kernel_rfl) (of_decide_eq_true (by kernel_rfl)) k0 bel lt0) trodAll_mk0), rfl, bel.frame _, fun h => by cases h⟩

theorem over : Rows.fnMergeEnumsRow.holds Try.pinned (OpenSpec.ofChange Rows.fnMergeEnumsSpec) :=
  OpenClaim.holds_of_wide 10 Try.f10 rfl rfl rfl rfl rfl rfl rfl ⟨rfl, rfl, rfl, rfl, rfl⟩ rfl rfl rfl rfl rfl (by kernel_rfl) Try.func10 (by kernel_rfl)
    (of_decide_eq_true (by kernel_rfl)) (by unfold Func.isWrapper; first | (rw [if_pos (by decide +kernel)]; kernel_rfl) | (rw [if_neg (by decide +kernel)]; exact ⟨rfl, rfl⟩))
    (fun os started H enc _ => lifted os started H enc)

theorem proved : Rows.FnMergeEnumsSaid := over
end Go.Proofs.Ytbkfagncoekbkaa.fnMergeEnums
