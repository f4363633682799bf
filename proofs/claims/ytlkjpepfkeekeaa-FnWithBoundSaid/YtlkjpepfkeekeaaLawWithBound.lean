/-
For every code the law of bounds that come back returns true: the program's WithBound answers as its model, and with the bound of before it is the class.
Conditions: none.
-/
import Derived.Test.YtlkjpepfkeekeaaGenG
import Derived.Test.YtlkjpepfkeekeaaOpenC
import Derived.Test.YtlkjpepfkeekeaaLFlag
namespace Go.Proofs.Ytlkjpepfkeekeaa.fnWithBound
open Go.ChangeShapes Go.WideShapes Go.ChangeAt Go.RowKit
open Go.ChangeMaps (open_string shut_string)
set_option linter.unusedVariables false
set_option maxRecDepth 100000

set_option maxHeartbeats 16000000 in
theorem walk (A : Option Addr) (n c : Nat) (zs : List Int) (w : World) (h : SB w w.heap.size A n c zs) :
    Calls Try.prog 14 #[.slice A n c] w fun e w' => e = .returned (.bool true) ∧ Below w.heap.size w w' := by
  have hm := h.max
  have hcap := h.cap
  unfold maxLen at hm
  have HS0 := Lib.hid h
  clear h
  by_cases hbig : 1048576 < (n : Int)
  · go_enter Try.func14, Try.ntmps14
    go_wp2
    go_ret
    exact ⟨rfl, Below.refl _ _⟩
  go_enter Try.func14, Try.ntmps14
  go_wp2_with fail
  refine (drawWithBound_any A n c zs _ HS0.out).mono ?_
  rintro e w1 ⟨Aa, ca, dsa, ba, nb, rfl, hna, hsma, hbda, hnb, hsa, hb⟩
  have HB_1 := Lib.hid hb
  have Sa_1 := Lib.hid hsa
  have HSMa := Lib.hid hsma
  have HOKa : Hid (∀ d ∈ dsa, d.ok) := Lib.hid (fun d hd => small_ok (hsma d hd))
  have HBDa := Lib.hid hbda
  clear hb hsa hsma hbda
  obtain ⟨w2, hw⟩ : ∃ W : World, W = (w1.alloc (.cells #[.slice Aa dsa.length ca, .int .i64 ba] 29)) := ⟨_, rfl⟩
  have hb : Below w1.heap.size w1 w2 := by rw [hw]; exact ((Below.refl _ _).alloc (by first | exact Nat.le_refl _ | (simp; done) | (simp; omega)) _)
  have Sa_2 := Lib.hid ((Sa_1.out.below hb).call hb.size)
  have HB_2 : Hid (Below w.heap.size w w2) := Lib.hid (HB_1.out.trans (hb.mono HB_1.out.size))
  have ba_2 : w2.cell? ⟨w1.heap.size, 0, none⟩ = some (.slice Aa dsa.length ca) := by rw [hw]; simp [go_sem]
  have va_2 : w2.cell? ⟨w1.heap.size, 1, none⟩ = some (.int .i64 ba) := by rw [hw]; simp [go_sem]
  have lf_ba : (w1.alloc (.cells #[.slice Aa dsa.length ca, .int .i64 ba] 29)).cell? ⟨w1.heap.size, 0, none⟩ = some (.slice Aa dsa.length ca) := by rw [← hw]; exact ba_2
  have lf_va : (w1.alloc (.cells #[.slice Aa dsa.length ca, .int .i64 ba] 29)).cell? ⟨w1.heap.size, 1, none⟩ = some (.int .i64 ba) := by rw [← hw]; exact va_2
  have HW2 : Hid ((w1.alloc (.cells #[.slice Aa dsa.length ca, .int .i64 ba] 29)) = w2) := Lib.hid hw.symm
  clear hb hw Sa_1 HB_1
  obtain ⟨ms, hms⟩ : ∃ ms, withDs dsa ba nb = ms := ⟨_, rfl⟩
  obtain ⟨rb, hrb⟩ : ∃ rb, withBd dsa ba nb = rb := ⟨_, rfl⟩
  obtain ⟨ok, hok⟩ : ∃ ok, mWith dsa ba nb = ok := ⟨_, rfl⟩
  have hq := withQ_is dsa ba nb
  have hdo := withDs_ok (b := ba) (b2 := nb) HOKa.out
  rw [hms, hrb, hok] at hq
  rw [hms] at hdo
  have HQ := Lib.hid hq
  have HOK := Lib.hid hok
  have OKM := Lib.hid hdo
  clear hms hrb hok hq hdo
  go_wp2_with fail
  rw [HW2.out]
  clear lf_ba lf_va
  refine (implWith_any dsa ba nb _ _ _ _ Sa_2.out (by omega) HOK.out HQ.out).mono ?_
  rintro e w3 ⟨Ag, cg, rfl, ho, hb⟩
  have ba_3 := keep1 hb ba_2
  have va_3 := keep1 hb va_2
  have Sa_3 := Lib.hid ((Sa_2.out.below hb).call hb.size)
  have HB_3 : Hid (Below w.heap.size w w3) := Lib.hid (HB_2.out.trans (hb.mono HB_2.out.size))
  have Sg_3 := Lib.hid (sd_of_own ho OKM.out)
  clear hb ho ba_2 va_2 Sa_2 HB_2
  obtain ⟨w4, hw⟩ : ∃ W : World, W = (w3.alloc (.cells #[.slice Ag ms.length cg, .int .i64 rb] 29)) := ⟨_, rfl⟩
  have hb : Below w3.heap.size w3 w4 := by rw [hw]; exact ((Below.refl _ _).alloc (by first | exact Nat.le_refl _ | (simp; done) | (simp; omega)) _)
  have ba_4 := keep1 hb ba_3
  have va_4 := keep1 hb va_3
  have Sa_4 := Lib.hid ((Sa_3.out.below hb).call hb.size)
  have Sg_4 := Lib.hid ((Sg_3.out.below hb).call hb.size)
  have HB_4 : Hid (Below w.heap.size w w4) := Lib.hid (HB_3.out.trans (hb.mono HB_3.out.size))
  have bg_4 : w4.cell? ⟨w3.heap.size, 0, none⟩ = some (.slice Ag ms.length cg) := by rw [hw]; simp [go_sem]
  have vg_4 : w4.cell? ⟨w3.heap.size, 1, none⟩ = some (.int .i64 rb) := by rw [hw]; simp [go_sem]
  have lf_ba : (w3.alloc (.cells #[.slice Ag ms.length cg, .int .i64 rb] 29)).cell? ⟨w1.heap.size, 0, none⟩ = some (.slice Aa dsa.length ca) := by rw [← hw]; exact ba_4
  have lf_va : (w3.alloc (.cells #[.slice Ag ms.length cg, .int .i64 rb] 29)).cell? ⟨w1.heap.size, 1, none⟩ = some (.int .i64 ba) := by rw [← hw]; exact va_4
  have lf_bg : (w3.alloc (.cells #[.slice Ag ms.length cg, .int .i64 rb] 29)).cell? ⟨w3.heap.size, 0, none⟩ = some (.slice Ag ms.length cg) := by rw [← hw]; exact bg_4
  have lf_vg : (w3.alloc (.cells #[.slice Ag ms.length cg, .int .i64 rb] 29)).cell? ⟨w3.heap.size, 1, none⟩ = some (.int .i64 rb) := by rw [← hw]; exact vg_4
  have HW4 : Hid ((w3.alloc (.cells #[.slice Ag ms.length cg, .int .i64 rb] 29)) = w4) := Lib.hid hw.symm
  clear hb hw ba_3 va_3 Sa_3 Sg_3 HB_3
  go_wp2_with fail
  rw [HW4.out]
  clear lf_ba lf_va lf_bg lf_vg
  refine (specWith_any dsa ba nb _ _ _ _ Sa_4.out (by omega) HOK.out HQ.out).mono ?_
  rintro e w5 ⟨Aw, cw, rfl, ho, hb⟩
  have ba_5 := keep1 hb ba_4
  have va_5 := keep1 hb va_4
  have bg_5 := keep1 hb bg_4
  have vg_5 := keep1 hb vg_4
  have Sa_5 := Lib.hid ((Sa_4.out.below hb).call hb.size)
  have Sg_5 := Lib.hid ((Sg_4.out.below hb).call hb.size)
  have HB_5 : Hid (Below w.heap.size w w5) := Lib.hid (HB_4.out.trans (hb.mono HB_4.out.size))
  have Sw_5 := Lib.hid (sd_of_own ho OKM.out)
  clear hb ho ba_4 va_4 bg_4 vg_4 Sa_4 Sg_4 HB_4
  obtain ⟨w6, hw⟩ : ∃ W : World, W = (w5.alloc (.cells #[.slice Aw ms.length cw, .int .i64 rb] 29)) := ⟨_, rfl⟩
  have hb : Below w5.heap.size w5 w6 := by rw [hw]; exact ((Below.refl _ _).alloc (by first | exact Nat.le_refl _ | (simp; done) | (simp; omega)) _)
  have ba_6 := keep1 hb ba_5
  have va_6 := keep1 hb va_5
  have bg_6 := keep1 hb bg_5
  have vg_6 := keep1 hb vg_5
  have Sa_6 := Lib.hid ((Sa_5.out.below hb).call hb.size)
  have Sg_6 := Lib.hid ((Sg_5.out.below hb).call hb.size)
  have Sw_6 := Lib.hid ((Sw_5.out.below hb).call hb.size)
  have HB_6 : Hid (Below w.heap.size w w6) := Lib.hid (HB_5.out.trans (hb.mono HB_5.out.size))
  have bw_6 : w6.cell? ⟨w5.heap.size, 0, none⟩ = some (.slice Aw ms.length cw) := by rw [hw]; simp [go_sem]
  have vw_6 : w6.cell? ⟨w5.heap.size, 1, none⟩ = some (.int .i64 rb) := by rw [hw]; simp [go_sem]
  have lf_ba : (w5.alloc (.cells #[.slice Aw ms.length cw, .int .i64 rb] 29)).cell? ⟨w1.heap.size, 0, none⟩ = some (.slice Aa dsa.length ca) := by rw [← hw]; exact ba_6
  have lf_va : (w5.alloc (.cells #[.slice Aw ms.length cw, .int .i64 rb] 29)).cell? ⟨w1.heap.size, 1, none⟩ = some (.int .i64 ba) := by rw [← hw]; exact va_6
  have lf_bg : (w5.alloc (.cells #[.slice Aw ms.length cw, .int .i64 rb] 29)).cell? ⟨w3.heap.size, 0, none⟩ = some (.slice Ag ms.length cg) := by rw [← hw]; exact bg_6
  have lf_vg : (w5.alloc (.cells #[.slice Aw ms.length cw, .int .i64 rb] 29)).cell? ⟨w3.heap.size, 1, none⟩ = some (.int .i64 rb) := by rw [← hw]; exact vg_6
  have lf_bw : (w5.alloc (.cells #[.slice Aw ms.length cw, .int .i64 rb] 29)).cell? ⟨w5.heap.size, 0, none⟩ = some (.slice Aw ms.length cw) := by rw [← hw]; exact bw_6
  have lf_vw : (w5.alloc (.cells #[.slice Aw ms.length cw, .int .i64 rb] 29)).cell? ⟨w5.heap.size, 1, none⟩ = some (.int .i64 rb) := by rw [← hw]; exact vw_6
  have HW6 : Hid ((w5.alloc (.cells #[.slice Aw ms.length cw, .int .i64 rb] 29)) = w6) := Lib.hid hw.symm
  clear hb hw ba_5 va_5 bg_5 vg_5 Sa_5 Sg_5 Sw_5 HB_5
  go_wp2_with fail
  rw [HW6.out]
  clear lf_ba lf_va lf_bg lf_vg lf_bw lf_vw
  refine (equalFlag_any ms rb _ _ _ _ _ _ _ Sg_6.out Sw_6.out).mono ?_
  rintro e w7 ⟨rfl, hb⟩
  have ba_7 := keep1 hb ba_6
  have va_7 := keep1 hb va_6
  have bg_7 := keep1 hb bg_6
  have vg_7 := keep1 hb vg_6
  have bw_7 := keep1 hb bw_6
  have vw_7 := keep1 hb vw_6
  have Sa_7 := Lib.hid ((Sa_6.out.below hb).call hb.size)
  have Sg_7 := Lib.hid ((Sg_6.out.below hb).call hb.size)
  have Sw_7 := Lib.hid ((Sw_6.out.below hb).call hb.size)
  have HB_7 : Hid (Below w.heap.size w w7) := Lib.hid (HB_6.out.trans (hb.mono HB_6.out.size))
  clear hb  ba_6 va_6 bg_6 vg_6 bw_6 vw_6 Sa_6 Sg_6 Sw_6 HB_6
  cases ok
  · skip
    go_wp2_with fail
    refine (equalFlag_any ms rb _ _ _ _ _ _ _ Sg_7.out Sw_7.out).mono ?_
    rintro e w8 ⟨rfl, hb⟩
    have ba_8 := keep1 hb ba_7
    have va_8 := keep1 hb va_7
    have bg_8 := keep1 hb bg_7
    have vg_8 := keep1 hb vg_7
    have bw_8 := keep1 hb bw_7
    have vw_8 := keep1 hb vw_7
    have Sa_8 := Lib.hid ((Sa_7.out.below hb).call hb.size)
    have Sg_8 := Lib.hid ((Sg_7.out.below hb).call hb.size)
    have Sw_8 := Lib.hid ((Sw_7.out.below hb).call hb.size)
    have HB_8 : Hid (Below w.heap.size w w8) := Lib.hid (HB_7.out.trans (hb.mono HB_7.out.size))
    clear hb  ba_7 va_7 bg_7 vg_7 bw_7 vw_7 Sa_7 Sg_7 Sw_7 HB_7
    go_wp2
    go_ret
    exact ⟨rfl, HB_8.out⟩
  have HV : Hid (vFlag dsa ba = true ∧ vFlag dsa nb = true) := Lib.hid (by have := HOK.out; unfold mWith at this; simpa using this)
  obtain ⟨rfl, rfl⟩ : dsa = ms ∧ nb = rb := by rcases HQ.out with ⟨_, h1, h2⟩ | ⟨h, _⟩; exact ⟨h1.symm, h2.symm⟩; cases h
  have HOK2 : Hid (mWith dsa nb ba = true) := Lib.hid (by unfold mWith; rw [HV.out.1, HV.out.2]; rfl)
  have HQ2 : Hid (WithQ dsa ba true dsa ba) := Lib.hid (.inl ⟨rfl, rfl, rfl⟩)
  have HM1 : Hid (mMaskOf dsa nb = (mMask dsa : Int)) := Lib.hid (if_yes HV.out.2)
  have HM2 : Hid (mMaskOf dsa ba = (mMask dsa : Int)) := Lib.hid (if_yes HV.out.1)
  generalize (mMask dsa : Int) = mk at HM1 HM2
  go_wp2_with fail
  refine (implWith_any dsa nb ba _ _ _ _ Sg_7.out (by omega) HOK2.out HQ2.out).mono ?_
  rintro e w8 ⟨Ad, cd, rfl, ho, hb⟩
  have ba_8 := keep1 hb ba_7
  have va_8 := keep1 hb va_7
  have bg_8 := keep1 hb bg_7
  have vg_8 := keep1 hb vg_7
  have bw_8 := keep1 hb bw_7
  have vw_8 := keep1 hb vw_7
  have Sa_8 := Lib.hid ((Sa_7.out.below hb).call hb.size)
  have Sg_8 := Lib.hid ((Sg_7.out.below hb).call hb.size)
  have Sw_8 := Lib.hid ((Sw_7.out.below hb).call hb.size)
  have HB_8 : Hid (Below w.heap.size w w8) := Lib.hid (HB_7.out.trans (hb.mono HB_7.out.size))
  have Sd_8 := Lib.hid (sd_of_own ho OKM.out)
  clear hb ho ba_7 va_7 bg_7 vg_7 bw_7 vw_7 Sa_7 Sg_7 Sw_7 HB_7
  obtain ⟨w9, hw⟩ : ∃ W : World, W = (w8.alloc (.cells #[.slice Ad dsa.length cd, .int .i64 ba] 29)) := ⟨_, rfl⟩
  have hb : Below w8.heap.size w8 w9 := by rw [hw]; exact ((Below.refl _ _).alloc (by first | exact Nat.le_refl _ | (simp; done) | (simp; omega)) _)
  have ba_9 := keep1 hb ba_8
  have va_9 := keep1 hb va_8
  have bg_9 := keep1 hb bg_8
  have vg_9 := keep1 hb vg_8
  have bw_9 := keep1 hb bw_8
  have vw_9 := keep1 hb vw_8
  have Sa_9 := Lib.hid ((Sa_8.out.below hb).call hb.size)
  have Sg_9 := Lib.hid ((Sg_8.out.below hb).call hb.size)
  have Sw_9 := Lib.hid ((Sw_8.out.below hb).call hb.size)
  have Sd_9 := Lib.hid ((Sd_8.out.below hb).call hb.size)
  have HB_9 : Hid (Below w.heap.size w w9) := Lib.hid (HB_8.out.trans (hb.mono HB_8.out.size))
  have bd_9 : w9.cell? ⟨w8.heap.size, 0, none⟩ = some (.slice Ad dsa.length cd) := by rw [hw]; simp [go_sem]
  have vd_9 : w9.cell? ⟨w8.heap.size, 1, none⟩ = some (.int .i64 ba) := by rw [hw]; simp [go_sem]
  have lf_ba : (w8.alloc (.cells #[.slice Ad dsa.length cd, .int .i64 ba] 29)).cell? ⟨w1.heap.size, 0, none⟩ = some (.slice Aa dsa.length ca) := by rw [← hw]; exact ba_9
  have lf_va : (w8.alloc (.cells #[.slice Ad dsa.length cd, .int .i64 ba] 29)).cell? ⟨w1.heap.size, 1, none⟩ = some (.int .i64 ba) := by rw [← hw]; exact va_9
  have lf_bg : (w8.alloc (.cells #[.slice Ad dsa.length cd, .int .i64 ba] 29)).cell? ⟨w3.heap.size, 0, none⟩ = some (.slice Ag dsa.length cg) := by rw [← hw]; exact bg_9
  have lf_vg : (w8.alloc (.cells #[.slice Ad dsa.length cd, .int .i64 ba] 29)).cell? ⟨w3.heap.size, 1, none⟩ = some (.int .i64 nb) := by rw [← hw]; exact vg_9
  have lf_bw : (w8.alloc (.cells #[.slice Ad dsa.length cd, .int .i64 ba] 29)).cell? ⟨w5.heap.size, 0, none⟩ = some (.slice Aw dsa.length cw) := by rw [← hw]; exact bw_9
  have lf_vw : (w8.alloc (.cells #[.slice Ad dsa.length cd, .int .i64 ba] 29)).cell? ⟨w5.heap.size, 1, none⟩ = some (.int .i64 nb) := by rw [← hw]; exact vw_9
  have lf_bd : (w8.alloc (.cells #[.slice Ad dsa.length cd, .int .i64 ba] 29)).cell? ⟨w8.heap.size, 0, none⟩ = some (.slice Ad dsa.length cd) := by rw [← hw]; exact bd_9
  have lf_vd : (w8.alloc (.cells #[.slice Ad dsa.length cd, .int .i64 ba] 29)).cell? ⟨w8.heap.size, 1, none⟩ = some (.int .i64 ba) := by rw [← hw]; exact vd_9
  have HW9 : Hid ((w8.alloc (.cells #[.slice Ad dsa.length cd, .int .i64 ba] 29)) = w9) := Lib.hid hw.symm
  clear hb hw ba_8 va_8 bg_8 vg_8 bw_8 vw_8 Sa_8 Sg_8 Sw_8 Sd_8 HB_8
  clear Sw_9
  clear bw_9
  clear lf_bw
  clear vw_9
  clear lf_vw
  go_wp2_with fail
  rw [HW9.out]
  clear lf_ba lf_va lf_bg lf_vg lf_bd lf_vd
  go_region_held3 (fun w' => w'.cell? ⟨w8.heap.size, 0, none⟩ = some (.slice Ad dsa.length cd) ∧ w'.cell? ⟨w8.heap.size, 1, none⟩ = some (.int .i64 ba) ∧ w'.cell? ⟨w1.heap.size, 0, none⟩ = some (.slice Aa dsa.length ca) ∧ w'.cell? ⟨w1.heap.size, 1, none⟩ = some (.int .i64 ba) ∧ w'.cell? ⟨w3.heap.size, 0, none⟩ = some (.slice Ag dsa.length cg) ∧ w'.cell? ⟨w3.heap.size, 1, none⟩ = some (.int .i64 nb))
    (first | go_keep | exact ⟨bd_9, vd_9, ba_9, va_9, bg_9, vg_9⟩ | exact ⟨bd_10, vd_10, ba_10, va_10, bg_10, vg_10⟩ | exact ⟨bd_11, vd_11, ba_11, va_11, bg_11, vg_11⟩ | exact ⟨bd_12, vd_12, ba_12, va_12, bg_12, vg_12⟩)
    (first
      | (go_at_call 49; refine (equalFlag_any dsa ba _ _ _ _ _ _ _ (Sd_9.out.drewN 1) (Sa_9.out.drewN 1)).mono ?_; rintro e w10 ⟨rfl, hb⟩; replace hb : Below w9.heap.size w9 w10 := (by first | exact hb | exact undrew hb); have ba_10 := keep1 hb ba_9; have va_10 := keep1 hb va_9; have bg_10 := keep1 hb bg_9; have vg_10 := keep1 hb vg_9; have bd_10 := keep1 hb bd_9; have vd_10 := keep1 hb vd_9; have Sa_10 := Lib.hid ((Sa_9.out.below hb).call hb.size); have Sg_10 := Lib.hid ((Sg_9.out.below hb).call hb.size); have Sd_10 := Lib.hid ((Sd_9.out.below hb).call hb.size); have HB_10 : Hid (Below w.heap.size w w10) := Lib.hid (HB_9.out.trans (hb.mono HB_9.out.size)); clear hb)
      | (go_at_call_of 29 (Value.agg #[.slice Ag dsa.length cg, .int .i64 nb]); refine (implMaskOf_v dsa nb _ _ _ _ Sg_10.out (by omega) HM1.out).mono ?_; rintro e w11 ⟨rfl, hb⟩; have ba_11 := keep1 hb ba_10; have va_11 := keep1 hb va_10; have bg_11 := keep1 hb bg_10; have vg_11 := keep1 hb vg_10; have bd_11 := keep1 hb bd_10; have vd_11 := keep1 hb vd_10; have Sa_11 := Lib.hid ((Sa_10.out.below hb).call hb.size); have Sg_11 := Lib.hid ((Sg_10.out.below hb).call hb.size); have Sd_11 := Lib.hid ((Sd_10.out.below hb).call hb.size); have HB_11 : Hid (Below w.heap.size w w11) := Lib.hid (HB_10.out.trans (hb.mono HB_10.out.size)); clear hb)
      | (go_at_call 29; refine (implMaskOf_v dsa ba _ _ _ _ Sa_11.out (by omega) HM2.out).mono ?_; rintro e w12 ⟨rfl, hb⟩; have ba_12 := keep1 hb ba_11; have va_12 := keep1 hb va_11; have bg_12 := keep1 hb bg_11; have vg_12 := keep1 hb vg_11; have bd_12 := keep1 hb bd_11; have vd_12 := keep1 hb vd_11; have Sa_12 := Lib.hid ((Sa_11.out.below hb).call hb.size); have Sg_12 := Lib.hid ((Sg_11.out.below hb).call hb.size); have Sd_12 := Lib.hid ((Sd_11.out.below hb).call hb.size); have HB_12 : Hid (Below w.heap.size w w12) := Lib.hid (HB_11.out.trans (hb.mono HB_11.out.size)); clear hb))
  go_wp2
  go_ret
  exact ⟨rfl, HB_12.out⟩

theorem lifted (os : Os) (started : os.Started) (H : Type) (enc : TypeId × Value → H) :
    ReturnsInHanded {} Try.checked os 14 .any (Rows.fnWithBoundSpec.pre6 enc Try.prog Try.f14 Rows.fnWithBoundRow.domain false) (Rows.fnWithBoundSpec.post enc Try.prog Try.f14 false true false false) := by
  refine returnsInHanded_of_change (C := Try.checked) own started (by kernel_rfl) Try.func14
    (ChangeSpec.witness6 (enc := enc) (C := Try.checked) false ⟨#[], #[.slice none 0 0], []⟩ 8 (by kernel_rfl) (by kernel_rfl) (by kernel_rfl) (by kernel_rfl)) ?_
  intro W base args ds gs before hval0 hW hcnd _
  have hval : ∀ (j : Nat) t v, Try.f14.params[j]? = some t → args[j]? = some v → Value.okWide Try.prog W .any base t v := hval0
  have hW' := hW
  obtain ⟨p, q, hA0, hV, rfl, hfz, hnd⟩ := hW
  have hA : DataW.TrodAll enc Try.prog W 0 (fun _ => true) true Try.f14.params.toList args.toList ds p := hA0
  rw [Try.params14] at hA hval
  obtain ⟨v0, vs0, d0, ds0, p0, q0, hargs, rfl, rfl, h0, r0⟩ := trodAll_cons hA
  obtain ⟨rfl, rfl, rfl⟩ := trodAll_nil r0
  obtain rfl : args = #[v0] := by cases args; simp_all
  obtain ⟨rfl, rfl⟩ := trodVars_none hV
  have k0 := h0
  have lt0 : ∀ x ∈ p0, x.block < W.heap.size := by obtain ⟨m, hm⟩ := k0; exact DataW.trod_lt m _ _ _ hm
  obtain ⟨A0, n0, c0, l0, rfl, w0⟩ := open_code (hval 0 53 v0 rfl rfl) h0
  clear hA0 hval0
  refine (walk A0 n0 c0 l0 W w0).mono fun e W' ⟨he, bel⟩ => ?_
  subst he
  exact ⟨_, rfl, _, _, _, [], _, [], hW', trodAll_mk1 (shut_bool Try.underlying4 _), (trodAll_cons_mk (Below.trod laidOut (by kernel_rfl) (of_decide_eq_true (by kernel_rfl)) k0 bel lt0) trodAll_mk0), rfl, bel.frame _, fun h => by cases h⟩

theorem over : Rows.fnWithBoundRow.holds Try.pinned (OpenSpec.ofChange Rows.fnWithBoundSpec) :=
  OpenClaim.holds_of_wide 14 Try.f14 rfl rfl rfl rfl rfl rfl rfl ⟨rfl, rfl, rfl, rfl, rfl⟩ rfl rfl rfl rfl rfl (by kernel_rfl) Try.func14 (by kernel_rfl)
    (of_decide_eq_true (by kernel_rfl)) (by unfold Func.isWrapper; first | (rw [if_pos (by decide +kernel)]; kernel_rfl) | (rw [if_neg (by decide +kernel)]; exact ⟨rfl, rfl⟩))
    (fun os started H enc _ => lifted os started H enc)

theorem proved : Rows.FnWithBoundSaid := over
end Go.Proofs.Ytlkjpepfkeekeaa.fnWithBound
