/-
For every code the law of added names returns true: the program's AddDef answers as its model, the name has its value then, and without it all is as before.
Conditions: none.
-/
import Derived.Test.YtiklgghbkkmnaaaGenA
import Derived.Test.YtiklgghbkkmnaaaLFun
import Derived.Test.YtiklgghbkkmnaaaOpenC
import Derived.Test.YtiklgghbkkmnaaaLPa
import Derived.Test.YtiklgghbkkmnaaaLEq
namespace Go.Proofs.Ytiklgghbkkmnaaa.fnAddDef
open Go.ChangeShapes Go.WideShapes Go.ChangeAt Go.RowKit
open Go.ChangeMaps (open_string shut_string)
set_option linter.unusedVariables false
set_option maxRecDepth 100000

set_option maxHeartbeats 16000000 in
theorem walk (A : Option Addr) (n c : Nat) (zs : List Int) (w : World) (h : SB w w.heap.size A n c zs) :
    Calls Try.prog 3 #[.slice A n c] w fun e w' => e = .returned (.bool true) ∧ Below w.heap.size w w' := by
  have hm := h.max
  have hcap := h.cap
  unfold maxLen at hm
  have HS0 := Lib.hid h
  clear h
  by_cases hbig : 1048576 < (n : Int)
  · go_enter Try.func3, Try.ntmps3
    go_wp2
    go_ret
    exact ⟨rfl, Below.refl _ _⟩
  go_enter Try.func3, Try.ntmps3
  go_wp2_with fail
  refine (drawAddDef_any A n c zs _ HS0.out).mono ?_
  rintro e w1 ⟨Aa, ca, dsa, db, rfl, hdb, hn, hsma, hsa, hb⟩
  have HB_1 := Lib.hid hb
  have Sa_1 := Lib.hid hsa
  have HSMa := Lib.hid hsma
  have HOKa : Hid (∀ d ∈ dsa, d.ok) := Lib.hid (fun d hd => small_ok (hsma d hd))
  have HDb := Lib.hid hdb
  clear hb hsa hsma hdb
  obtain ⟨w2, hw⟩ : ∃ W : World, W = ((w1.alloc (.cells #[.slice Aa dsa.length ca] 25)).alloc (.cells #[.string db.name, .int .i64 db.val] 27)) := ⟨_, rfl⟩
  have hb : Below w1.heap.size w1 w2 := by rw [hw]; exact (((Below.refl _ _).alloc (by first | exact Nat.le_refl _ | (simp; done) | (simp; omega)) _).alloc (by first | exact Nat.le_refl _ | (simp; done) | (simp; omega)) _)
  have Sa_2 := Lib.hid ((Sa_1.out.below hb).call hb.size)
  have HB_2 : Hid (Below w.heap.size w w2) := Lib.hid (HB_1.out.trans (hb.mono HB_1.out.size))
  have ba_2 : w2.cell? ⟨w1.heap.size, 0, none⟩ = some (.slice Aa dsa.length ca) := by rw [hw]; simp [go_sem]
  have bb_2 : w2.cell? ⟨w1.heap.size + 1, 0, none⟩ = some (.string db.name) := by rw [hw]; simp [go_sem]
  have vb_2 : w2.cell? ⟨w1.heap.size + 1, 1, none⟩ = some (.int .i64 db.val) := by rw [hw]; simp [go_sem]
  have lf_ba : ((w1.alloc (.cells #[.slice Aa dsa.length ca] 25)).alloc (.cells #[.string db.name, .int .i64 db.val] 27)).cell? ⟨w1.heap.size, 0, none⟩ = some (.slice Aa dsa.length ca) := by rw [← hw]; exact ba_2
  have lf_bb : ((w1.alloc (.cells #[.slice Aa dsa.length ca] 25)).alloc (.cells #[.string db.name, .int .i64 db.val] 27)).cell? ⟨w1.heap.size + 1, 0, none⟩ = some (.string db.name) := by rw [← hw]; exact bb_2
  have lf_vb : ((w1.alloc (.cells #[.slice Aa dsa.length ca] 25)).alloc (.cells #[.string db.name, .int .i64 db.val] 27)).cell? ⟨w1.heap.size + 1, 1, none⟩ = some (.int .i64 db.val) := by rw [← hw]; exact vb_2
  have HW2 : Hid (((w1.alloc (.cells #[.slice Aa dsa.length ca] 25)).alloc (.cells #[.string db.name, .int .i64 db.val] 27)) = w2) := Lib.hid hw.symm
  clear hb hw Sa_1 HB_1
  have OKM0 : ∀ d ∈ (mAdd dsa db).getD [], d.ok := fun d hd => by rcases mAdd_mem hd with h | h; exact HOKa.out d h; rw [h]; exact HDb.out
  have hml := mAdd_len dsa db
  have hfit : ∀ es, mAdd dsa db = some es → AddL dsa db es := fun es h => add_law h
  have HIM : Hid (∀ (A : Option Addr) (n c : Nat) (w : World), SD w w.heap.size A n c dsa → Calls Try.prog 16 #[.agg #[.slice A n c], .agg #[.string db.name, .int .i64 db.val]] w (EnumP (mAdd dsa db) w)) := Lib.hid fun A n c w h => implAddDef_any dsa db A n c w h HDb.out
  have HSP : Hid (∀ (A : Option Addr) (n c : Nat) (w : World), SD w w.heap.size A n c dsa → Calls Try.prog 17 #[.agg #[.slice A n c], .agg #[.string db.name, .int .i64 db.val]] w (EnumP (mAdd dsa db) w)) := Lib.hid fun A n c w h => specAddDef_any dsa db A n c w h HDb.out
  unfold EnumP at HIM HSP
  have HFIT : Hid ((mAdd dsa db).isSome = true → AddL dsa db ((mAdd dsa db).getD [])) := Lib.hid (fun h => by cases hq : mAdd dsa db with | none => rw [hq] at h; cases h | some es => exact hfit es hq)
  clear hfit
  generalize (mAdd dsa db).getD [] = ms at *
  generalize (mAdd dsa db).isSome = ok at *
  have OKM := Lib.hid OKM0
  clear OKM0
  go_wp2_with fail
  rw [HW2.out]
  clear lf_ba lf_bb lf_vb
  refine (HIM.out _ _ _ _ Sa_2.out).mono ?_
  rintro e w3 ⟨Ag, cg, rfl, ho, hb⟩
  have ba_3 := keep1 hb ba_2
  have bb_3 := keep1 hb bb_2
  have vb_3 := keep1 hb vb_2
  have Sa_3 := Lib.hid ((Sa_2.out.below hb).call hb.size)
  have HB_3 : Hid (Below w.heap.size w w3) := Lib.hid (HB_2.out.trans (hb.mono HB_2.out.size))
  have Sg_3 := Lib.hid (sd_of_own ho OKM.out)
  clear hb ho ba_2 bb_2 vb_2 Sa_2 HB_2
  obtain ⟨w4, hw⟩ : ∃ W : World, W = (w3.alloc (.cells #[.slice Ag ms.length cg] 25)) := ⟨_, rfl⟩
  have hb : Below w3.heap.size w3 w4 := by rw [hw]; exact ((Below.refl _ _).alloc (by first | exact Nat.le_refl _ | (simp; done) | (simp; omega)) _)
  have ba_4 := keep1 hb ba_3
  have bb_4 := keep1 hb bb_3
  have vb_4 := keep1 hb vb_3
  have Sa_4 := Lib.hid ((Sa_3.out.below hb).call hb.size)
  have Sg_4 := Lib.hid ((Sg_3.out.below hb).call hb.size)
  have HB_4 : Hid (Below w.heap.size w w4) := Lib.hid (HB_3.out.trans (hb.mono HB_3.out.size))
  have bg_4 : w4.cell? ⟨w3.heap.size, 0, none⟩ = some (.slice Ag ms.length cg) := by rw [hw]; simp [go_sem]
  have lf_ba : (w3.alloc (.cells #[.slice Ag ms.length cg] 25)).cell? ⟨w1.heap.size, 0, none⟩ = some (.slice Aa dsa.length ca) := by rw [← hw]; exact ba_4
  have lf_bb : (w3.alloc (.cells #[.slice Ag ms.length cg] 25)).cell? ⟨w1.heap.size + 1, 0, none⟩ = some (.string db.name) := by rw [← hw]; exact bb_4
  have lf_vb : (w3.alloc (.cells #[.slice Ag ms.length cg] 25)).cell? ⟨w1.heap.size + 1, 1, none⟩ = some (.int .i64 db.val) := by rw [← hw]; exact vb_4
  have lf_bg : (w3.alloc (.cells #[.slice Ag ms.length cg] 25)).cell? ⟨w3.heap.size, 0, none⟩ = some (.slice Ag ms.length cg) := by rw [← hw]; exact bg_4
  have HW4 : Hid ((w3.alloc (.cells #[.slice Ag ms.length cg] 25)) = w4) := Lib.hid hw.symm
  clear hb hw ba_3 bb_3 vb_3 Sa_3 Sg_3 HB_3
  go_wp2_with fail
  rw [HW4.out]
  clear lf_ba lf_bb lf_vb lf_bg
  refine (HSP.out _ _ _ _ Sa_4.out).mono ?_
  rintro e w5 ⟨Aw, cw, rfl, ho, hb⟩
  have ba_5 := keep1 hb ba_4
  have bb_5 := keep1 hb bb_4
  have vb_5 := keep1 hb vb_4
  have bg_5 := keep1 hb bg_4
  have Sa_5 := Lib.hid ((Sa_4.out.below hb).call hb.size)
  have Sg_5 := Lib.hid ((Sg_4.out.below hb).call hb.size)
  have HB_5 : Hid (Below w.heap.size w w5) := Lib.hid (HB_4.out.trans (hb.mono HB_4.out.size))
  have Sw_5 := Lib.hid (sd_of_own ho OKM.out)
  clear hb ho ba_4 bb_4 vb_4 bg_4 Sa_4 Sg_4 HB_4
  obtain ⟨w6, hw⟩ : ∃ W : World, W = (w5.alloc (.cells #[.slice Aw ms.length cw] 25)) := ⟨_, rfl⟩
  have hb : Below w5.heap.size w5 w6 := by rw [hw]; exact ((Below.refl _ _).alloc (by first | exact Nat.le_refl _ | (simp; done) | (simp; omega)) _)
  have ba_6 := keep1 hb ba_5
  have bb_6 := keep1 hb bb_5
  have vb_6 := keep1 hb vb_5
  have bg_6 := keep1 hb bg_5
  have Sa_6 := Lib.hid ((Sa_5.out.below hb).call hb.size)
  have Sg_6 := Lib.hid ((Sg_5.out.below hb).call hb.size)
  have Sw_6 := Lib.hid ((Sw_5.out.below hb).call hb.size)
  have HB_6 : Hid (Below w.heap.size w w6) := Lib.hid (HB_5.out.trans (hb.mono HB_5.out.size))
  have bw_6 : w6.cell? ⟨w5.heap.size, 0, none⟩ = some (.slice Aw ms.length cw) := by rw [hw]; simp [go_sem]
  have lf_ba : (w5.alloc (.cells #[.slice Aw ms.length cw] 25)).cell? ⟨w1.heap.size, 0, none⟩ = some (.slice Aa dsa.length ca) := by rw [← hw]; exact ba_6
  have lf_bb : (w5.alloc (.cells #[.slice Aw ms.length cw] 25)).cell? ⟨w1.heap.size + 1, 0, none⟩ = some (.string db.name) := by rw [← hw]; exact bb_6
  have lf_vb : (w5.alloc (.cells #[.slice Aw ms.length cw] 25)).cell? ⟨w1.heap.size + 1, 1, none⟩ = some (.int .i64 db.val) := by rw [← hw]; exact vb_6
  have lf_bg : (w5.alloc (.cells #[.slice Aw ms.length cw] 25)).cell? ⟨w3.heap.size, 0, none⟩ = some (.slice Ag ms.length cg) := by rw [← hw]; exact bg_6
  have lf_bw : (w5.alloc (.cells #[.slice Aw ms.length cw] 25)).cell? ⟨w5.heap.size, 0, none⟩ = some (.slice Aw ms.length cw) := by rw [← hw]; exact bw_6
  have HW6 : Hid ((w5.alloc (.cells #[.slice Aw ms.length cw] 25)) = w6) := Lib.hid hw.symm
  clear hb hw ba_5 bb_5 vb_5 bg_5 Sa_5 Sg_5 Sw_5 HB_5
  go_wp2_with fail
  rw [HW6.out]
  clear lf_ba lf_bb lf_vb lf_bg lf_bw
  refine (equalEnum_any ms _ _ _ _ _ _ _ Sg_6.out Sw_6.out).mono ?_
  rintro e w7 ⟨rfl, hb⟩
  have ba_7 := keep1 hb ba_6
  have bb_7 := keep1 hb bb_6
  have vb_7 := keep1 hb vb_6
  have bg_7 := keep1 hb bg_6
  have bw_7 := keep1 hb bw_6
  have Sa_7 := Lib.hid ((Sa_6.out.below hb).call hb.size)
  have Sg_7 := Lib.hid ((Sg_6.out.below hb).call hb.size)
  have Sw_7 := Lib.hid ((Sw_6.out.below hb).call hb.size)
  have HB_7 : Hid (Below w.heap.size w w7) := Lib.hid (HB_6.out.trans (hb.mono HB_6.out.size))
  clear hb  ba_6 bb_6 vb_6 bg_6 bw_6 Sa_6 Sg_6 Sw_6 HB_6
  cases ok
  · skip
    go_wp2_with fail
    refine (equalEnum_any ms _ _ _ _ _ _ _ Sg_7.out Sw_7.out).mono ?_
    rintro e w8 ⟨rfl, hb⟩
    have ba_8 := keep1 hb ba_7
    have bb_8 := keep1 hb bb_7
    have vb_8 := keep1 hb vb_7
    have bg_8 := keep1 hb bg_7
    have bw_8 := keep1 hb bw_7
    have Sa_8 := Lib.hid ((Sa_7.out.below hb).call hb.size)
    have Sg_8 := Lib.hid ((Sg_7.out.below hb).call hb.size)
    have Sw_8 := Lib.hid ((Sw_7.out.below hb).call hb.size)
    have HB_8 : Hid (Below w.heap.size w w8) := Lib.hid (HB_7.out.trans (hb.mono HB_7.out.size))
    clear hb  ba_7 bb_7 vb_7 bg_7 bw_7 Sa_7 Sg_7 Sw_7 HB_7
    go_wp2
    go_ret
    exact ⟨rfl, HB_8.out⟩
  have HF := Lib.hid (HFIT.out rfl)
  clear HFIT HIM HSP
  clear Sw_7
  clear bw_7
  have hlt : dsa.length < ms.length := by have := HF.out.len; omega
  have HV : Hid (∃ k, ∃ hk : k < ms.length, fidx (isNm db.name) ms = (k : Int) ∧ ms[k].val = db.val) := Lib.hid ⟨dsa.length, hlt, HF.out.idx, by rw [HF.out.at_ hlt]⟩
  have HD2 : Hid (∀ (A : Option Addr) (n c : Nat) (w : World), SD w w.heap.size A n c ms → Calls Try.prog 20 #[.agg #[.slice A n c], .string db.name] w (EnumP (some dsa) w)) := Lib.hid fun A n c w h => by
    have := implDrop_yes ms db.name A n c w h HF.out.ve dsa.length hlt HF.out.idx
    rw [HF.out.ers] at this
    exact this
  unfold EnumP at HD2
  simp only [Option.getD_some, Option.isSome_some] at HD2
  clear hlt
  go_wp2_with fail
  refine (implValue_at ms _ _ _ _ _ Sg_7.out HF.out.ve HV.out).mono ?_
  rintro e w8 ⟨rfl, hb⟩
  have ba_8 := keep1 hb ba_7
  have bb_8 := keep1 hb bb_7
  have vb_8 := keep1 hb vb_7
  have bg_8 := keep1 hb bg_7
  have Sa_8 := Lib.hid ((Sa_7.out.below hb).call hb.size)
  have Sg_8 := Lib.hid ((Sg_7.out.below hb).call hb.size)
  have HB_8 : Hid (Below w.heap.size w w8) := Lib.hid (HB_7.out.trans (hb.mono HB_7.out.size))
  clear hb  ba_7 bb_7 vb_7 bg_7 Sa_7 Sg_7 HB_7
  go_wp2_with fail
  refine (HD2.out _ _ _ _ Sg_8.out).mono ?_
  rintro e w9 ⟨Ad, cd, rfl, ho, hb⟩
  have ba_9 := keep1 hb ba_8
  have bb_9 := keep1 hb bb_8
  have vb_9 := keep1 hb vb_8
  have bg_9 := keep1 hb bg_8
  have Sa_9 := Lib.hid ((Sa_8.out.below hb).call hb.size)
  have Sg_9 := Lib.hid ((Sg_8.out.below hb).call hb.size)
  have HB_9 : Hid (Below w.heap.size w w9) := Lib.hid (HB_8.out.trans (hb.mono HB_8.out.size))
  have Sd_9 := Lib.hid (sd_of_own ho HOKa.out)
  clear hb ho ba_8 bb_8 vb_8 bg_8 Sa_8 Sg_8 HB_8
  obtain ⟨w10, hw⟩ : ∃ W : World, W = (w9.alloc (.cells #[.slice Ad dsa.length cd] 25)) := ⟨_, rfl⟩
  have hb : Below w9.heap.size w9 w10 := by rw [hw]; exact ((Below.refl _ _).alloc (by first | exact Nat.le_refl _ | (simp; done) | (simp; omega)) _)
  have ba_10 := keep1 hb ba_9
  have bb_10 := keep1 hb bb_9
  have vb_10 := keep1 hb vb_9
  have bg_10 := keep1 hb bg_9
  have Sa_10 := Lib.hid ((Sa_9.out.below hb).call hb.size)
  have Sg_10 := Lib.hid ((Sg_9.out.below hb).call hb.size)
  have Sd_10 := Lib.hid ((Sd_9.out.below hb).call hb.size)
  have HB_10 : Hid (Below w.heap.size w w10) := Lib.hid (HB_9.out.trans (hb.mono HB_9.out.size))
  have bd_10 : w10.cell? ⟨w9.heap.size, 0, none⟩ = some (.slice Ad dsa.length cd) := by rw [hw]; simp [go_sem]
  have lf_ba : (w9.alloc (.cells #[.slice Ad dsa.length cd] 25)).cell? ⟨w1.heap.size, 0, none⟩ = some (.slice Aa dsa.length ca) := by rw [← hw]; exact ba_10
  have lf_bb : (w9.alloc (.cells #[.slice Ad dsa.length cd] 25)).cell? ⟨w1.heap.size + 1, 0, none⟩ = some (.string db.name) := by rw [← hw]; exact bb_10
  have lf_vb : (w9.alloc (.cells #[.slice Ad dsa.length cd] 25)).cell? ⟨w1.heap.size + 1, 1, none⟩ = some (.int .i64 db.val) := by rw [← hw]; exact vb_10
  have lf_bg : (w9.alloc (.cells #[.slice Ad dsa.length cd] 25)).cell? ⟨w3.heap.size, 0, none⟩ = some (.slice Ag ms.length cg) := by rw [← hw]; exact bg_10
  have lf_bd : (w9.alloc (.cells #[.slice Ad dsa.length cd] 25)).cell? ⟨w9.heap.size, 0, none⟩ = some (.slice Ad dsa.length cd) := by rw [← hw]; exact bd_10
  have HW10 : Hid ((w9.alloc (.cells #[.slice Ad dsa.length cd] 25)) = w10) := Lib.hid hw.symm
  clear hb hw ba_9 bb_9 vb_9 bg_9 Sa_9 Sg_9 Sd_9 HB_9
  go_wp2_with fail
  rw [HW10.out]
  clear lf_ba lf_bb lf_vb lf_bg lf_bd
  refine (equalEnum_any dsa _ _ _ _ _ _ _ Sd_10.out Sa_10.out).mono ?_
  rintro e w11 ⟨rfl, hb⟩
  have ba_11 := keep1 hb ba_10
  have bb_11 := keep1 hb bb_10
  have vb_11 := keep1 hb vb_10
  have bg_11 := keep1 hb bg_10
  have bd_11 := keep1 hb bd_10
  have Sa_11 := Lib.hid ((Sa_10.out.below hb).call hb.size)
  have Sg_11 := Lib.hid ((Sg_10.out.below hb).call hb.size)
  have Sd_11 := Lib.hid ((Sd_10.out.below hb).call hb.size)
  have HB_11 : Hid (Below w.heap.size w w11) := Lib.hid (HB_10.out.trans (hb.mono HB_10.out.size))
  clear hb  ba_10 bb_10 vb_10 bg_10 bd_10 Sa_10 Sg_10 Sd_10 HB_10
  go_wp2
  go_ret
  exact ⟨rfl, HB_11.out⟩

theorem lifted (os : Os) (started : os.Started) (H : Type) (enc : TypeId × Value → H) :
    ReturnsInHanded {} Try.checked os 3 .any (Rows.fnAddDefSpec.pre6 enc Try.prog Try.f3 Rows.fnAddDefRow.domain false) (Rows.fnAddDefSpec.post enc Try.prog Try.f3 false true false false) := by
  refine returnsInHanded_of_change (C := Try.checked) own started (by kernel_rfl) Try.func3
    (ChangeSpec.witness6 (enc := enc) (C := Try.checked) false ⟨#[], #[.slice none 0 0], []⟩ 8 (by kernel_rfl) (by kernel_rfl) (by kernel_rfl) (by kernel_rfl)) ?_
  intro W base args ds gs before hval0 hW hcnd _
  have hval : ∀ (j : Nat) t v, Try.f3.params[j]? = some t → args[j]? = some v → Value.okWide Try.prog W .any base t v := hval0
  have hW' := hW
  obtain ⟨p, q, hA0, hV, rfl, hfz, hnd⟩ := hW
  have hA : DataW.TrodAll enc Try.prog W 0 (fun _ => true) true Try.f3.params.toList args.toList ds p := hA0
  rw [Try.params3] at hA hval
  obtain ⟨v0, vs0, d0, ds0, p0, q0, hargs, rfl, rfl, h0, r0⟩ := trodAll_cons hA
  obtain ⟨rfl, rfl, rfl⟩ := trodAll_nil r0
  obtain rfl : args = #[v0] := by cases args; simp_all
  obtain ⟨rfl, rfl⟩ := trodVars_none hV
  have k0 := h0
  have lt0 : ∀ x ∈ p0, x.block < W.heap.size := by obtain ⟨m, hm⟩ := k0; exact DataW.trod_lt m _ _ _ hm
  obtain ⟨A0, n0, c0, l0, rfl, w0⟩ := open_code (hval 0 22 v0 rfl rfl) h0
  clear hA0 hval0
  refine (walk A0 n0 c0 l0 W w0).mono fun e W' ⟨he, bel⟩ => ?_
  subst he
  exact ⟨_, rfl, _, _, _, [], _, [], hW', trodAll_mk1 (shut_bool Try.underlying4 _), (trodAll_cons_mk (Below.trod laidOut (by kernel_rfl) (of_decide_eq_true (by kernel_rfl)) k0 bel lt0) trodAll_mk0), rfl, bel.frame _, fun h => by cases h⟩

theorem over : Rows.fnAddDefRow.holds Try.pinned (OpenSpec.ofChange Rows.fnAddDefSpec) :=
  OpenClaim.holds_of_wide 3 Try.f3 rfl rfl rfl rfl rfl rfl rfl ⟨rfl, rfl, rfl, rfl, rfl⟩ rfl rfl rfl rfl rfl (by kernel_rfl) Try.func3 (by kernel_rfl)
    (of_decide_eq_true (by kernel_rfl)) (by unfold Func.isWrapper; first | (rw [if_pos (by decide +kernel)]; kernel_rfl) | (rw [if_neg (by decide +kernel)]; exact ⟨rfl, rfl⟩))
    (fun os started H enc _ => lifted os started H enc)

theorem proved : Rows.FnAddDefSaid := over
end Go.Proofs.Ytiklgghbkkmnaaa.fnAddDef
