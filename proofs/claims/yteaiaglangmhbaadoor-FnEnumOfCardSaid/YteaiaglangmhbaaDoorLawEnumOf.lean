/-
For every code the law of enumerations of bits returns true: the program's EnumOf answers as its model, is a valid enumeration, and its members, sorted, are the names of one bit.
Conditions: none.
-/
import Derived.Test.YteaiaglangmhbaaDoorGenEu
import Derived.Test.YteaiaglangmhbaaDoorOpenC
import Derived.Test.YteaiaglangmhbaaDoorLEnu
import Derived.Test.YteaiaglangmhbaaDoorAlgJ
import Derived.Test.YteaiaglangmhbaaDoorBaseD
import Derived.Test.YteaiaglangmhbaaDoorEnuS
import Derived.Test.YteaiaglangmhbaaDoorEnuI
import Derived.Test.YteaiaglangmhbaaDoorSortI
import Derived.Test.YteaiaglangmhbaaDoorSortW
import Derived.Test.YteaiaglangmhbaaDoorLEq
import Derived.Test.YteaiaglangmhbaaDoorDoor
namespace Go.Proofs.YteaiaglangmhbaaDoor.fnEnumOf
open Go.ChangeShapes Go.WideShapes Go.ChangeAt Go.RowKit
open Go.ChangeMaps (open_string shut_string)
set_option linter.unusedVariables false
set_option linter.unusedSimpArgs false
set_option maxRecDepth 100000

set_option maxHeartbeats 16000000 in
theorem walk (A : Option Addr) (n c : Nat) (zs : List Int) (w : World) (h : SB w w.heap.size A n c zs) (hT : TabAt w) :
    Calls Tryd.prog 4 #[.slice A n c] w fun e w' => e = .returned (.bool true) ∧ Below w.heap.size w w' := by
  have hm := h.max
  have hcap := h.cap
  unfold maxLen at hm
  have HS0 := Lib.hid h
  have HTb : Hid (Tb w w.heap.size) := Lib.hid ⟨hT, hT.size⟩
  clear h hT
  by_cases hbig : 1048576 < (n : Int)
  · go_enter Tryd.func4, Tryd.ntmps4
    go_wp2
    go_ret
    exact ⟨rfl, Below.refl _ _⟩
  go_enter Tryd.func4, Tryd.ntmps4
  go_wp2_with fail
  refine (drawEnumOf_any A n c zs _ HS0.out).mono ?_
  rintro e w1 ⟨Aa, ca, dsa, ba, rfl, hna, hsma, hbda, hsa, hb⟩
  have HB_1 := Lib.hid hb
  have Tb_1 := Lib.hid ((HTb.out.below hb).call hb.size)
  clear HTb
  have Sa_1 := Lib.hid hsa
  have HSMa := Lib.hid hsma
  have HOKa : Hid (∀ d ∈ dsa, d.ok) := Lib.hid (fun d hd => small_ok (hsma d hd))
  have HBDa := Lib.hid hbda
  clear hb hsa hsma hbda
  obtain ⟨w2, hw⟩ : ∃ W : World, W = (w1.alloc (.cells #[.slice Aa dsa.length ca, .int .i64 ba] 31)) := ⟨_, rfl⟩
  have hb : Below w1.heap.size w1 w2 := by rw [hw]; exact ((Below.refl _ _).alloc (by first | exact Nat.le_refl _ | (simp; done) | (simp; omega)) _)
  have Tb_2 := Lib.hid ((Tb_1.out.below hb).call hb.size)
  have Sa_2 := Lib.hid ((Sa_1.out.below hb).call hb.size)
  have HB_2 : Hid (Below w.heap.size w w2) := Lib.hid (HB_1.out.trans (hb.mono HB_1.out.size))
  have ba_2 : w2.cell? ⟨w1.heap.size, 0, none⟩ = some (.slice Aa dsa.length ca) := by rw [hw]; simp [go_sem]
  have va_2 : w2.cell? ⟨w1.heap.size, 1, none⟩ = some (.int .i64 ba) := by rw [hw]; simp [go_sem]
  have lf_ba : (w1.alloc (.cells #[.slice Aa dsa.length ca, .int .i64 ba] 31)).cell? ⟨w1.heap.size, 0, none⟩ = some (.slice Aa dsa.length ca) := by rw [← hw]; exact ba_2
  have lf_va : (w1.alloc (.cells #[.slice Aa dsa.length ca, .int .i64 ba] 31)).cell? ⟨w1.heap.size, 1, none⟩ = some (.int .i64 ba) := by rw [← hw]; exact va_2
  have HW2 : Hid ((w1.alloc (.cells #[.slice Aa dsa.length ca, .int .i64 ba] 31)) = w2) := Lib.hid hw.symm
  clear hb hw Tb_1 Sa_1 HB_1
  have OKM0 : ∀ d ∈ mEnum dsa ba, d.ok := mEnum_ok HOKa.out
  have hml : (mEnum dsa ba).length ≤ 12 := mEnum_len _ _
  have HIM : Hid (∀ (A : Option Addr) (n c : Nat) (w : World), SD w w.heap.size A n c dsa → n ≤ 1048576 → Tb w w.heap.size → Calls Tryd.prog 9 #[.agg #[.slice A n c, .int .i64 ba]] w (EnumE (mEnum dsa ba) w)) := Lib.hid fun A n c w h hn ht => implEnum_any dsa ba A n c w h hn ht.at_ ht.lt
  have HSP : Hid (∀ (A : Option Addr) (n c : Nat) (w : World), SD w w.heap.size A n c dsa → n ≤ 1048576 → Calls Tryd.prog 7 #[.agg #[.slice A n c, .int .i64 ba]] w (EnumE (mEnum dsa ba) w)) := Lib.hid fun A n c w h hn => specEnum_any dsa ba A n c w h hn
  unfold EnumE at HIM HSP
  have HFIT : Hid (vFlag dsa ba = true → EnuL dsa ba (mEnum dsa ba)) := Lib.hid (fun h => enum_law h)
  generalize mEnum dsa ba = ms at *
  have OKM := Lib.hid OKM0
  clear OKM0
  go_wp2_with fail
  rw [HW2.out]
  clear lf_ba lf_va
  refine (HIM.out _ _ _ _ Sa_2.out (by omega) Tb_2.out).mono ?_
  rintro e w3 ⟨Ag, cg, rfl, ho, hb⟩
  have ba_3 := keep1 hb ba_2
  have va_3 := keep1 hb va_2
  have Tb_3 := Lib.hid ((Tb_2.out.below hb).call hb.size)
  have Sa_3 := Lib.hid ((Sa_2.out.below hb).call hb.size)
  have HB_3 : Hid (Below w.heap.size w w3) := Lib.hid (HB_2.out.trans (hb.mono HB_2.out.size))
  have Sg_3 := Lib.hid (sd_of_own ho OKM.out)
  clear hb ho ba_2 va_2 Tb_2 Sa_2 HB_2
  obtain ⟨w4, hw⟩ : ∃ W : World, W = (w3.alloc (.cells #[.slice Ag ms.length cg] 28)) := ⟨_, rfl⟩
  have hb : Below w3.heap.size w3 w4 := by rw [hw]; exact ((Below.refl _ _).alloc (by first | exact Nat.le_refl _ | (simp; done) | (simp; omega)) _)
  have ba_4 := keep1 hb ba_3
  have va_4 := keep1 hb va_3
  have Tb_4 := Lib.hid ((Tb_3.out.below hb).call hb.size)
  have Sa_4 := Lib.hid ((Sa_3.out.below hb).call hb.size)
  have Sg_4 := Lib.hid ((Sg_3.out.below hb).call hb.size)
  have HB_4 : Hid (Below w.heap.size w w4) := Lib.hid (HB_3.out.trans (hb.mono HB_3.out.size))
  have bg_4 : w4.cell? ⟨w3.heap.size, 0, none⟩ = some (.slice Ag ms.length cg) := by rw [hw]; simp [go_sem]
  have lf_ba : (w3.alloc (.cells #[.slice Ag ms.length cg] 28)).cell? ⟨w1.heap.size, 0, none⟩ = some (.slice Aa dsa.length ca) := by rw [← hw]; exact ba_4
  have lf_va : (w3.alloc (.cells #[.slice Ag ms.length cg] 28)).cell? ⟨w1.heap.size, 1, none⟩ = some (.int .i64 ba) := by rw [← hw]; exact va_4
  have lf_bg : (w3.alloc (.cells #[.slice Ag ms.length cg] 28)).cell? ⟨w3.heap.size, 0, none⟩ = some (.slice Ag ms.length cg) := by rw [← hw]; exact bg_4
  have HW4 : Hid ((w3.alloc (.cells #[.slice Ag ms.length cg] 28)) = w4) := Lib.hid hw.symm
  clear hb hw ba_3 va_3 Tb_3 Sa_3 Sg_3 HB_3
  clear Tb_4
  cases hv : vFlag dsa ba
  · skip
    have HV := Lib.hid hv
    clear hv HFIT
    go_wp2_with fail
    rw [HW4.out]
    clear lf_ba lf_va lf_bg
    go_region_held3 (fun w' => w'.cell? ⟨w3.heap.size, 0, none⟩ = some (.slice Ag ms.length cg) ∧ w'.cell? ⟨w1.heap.size, 0, none⟩ = some (.slice Aa dsa.length ca) ∧ w'.cell? ⟨w1.heap.size, 1, none⟩ = some (.int .i64 ba))
      (first | go_keep | exact ⟨bg_4, ba_4, va_4⟩ | exact ⟨bg_5, ba_5, va_5⟩ | exact ⟨bg_6, ba_6, va_6⟩ | exact ⟨bg_7, ba_7, va_7⟩)
      (first
        | (go_at_call 7; refine (HSP.out _ _ _ _ (Sa_4.out.drewN 1) (by omega)).mono ?_; rintro e w5 ⟨Aw, cw, rfl, ho, hb⟩; replace hb : Below w4.heap.size w4 w5 := (by first | exact hb | exact undrew hb); have ba_5 := keep1 hb ba_4; have va_5 := keep1 hb va_4; have bg_5 := keep1 hb bg_4; have Sa_5 := Lib.hid ((Sa_4.out.below hb).call hb.size); have Sg_5 := Lib.hid ((Sg_4.out.below hb).call hb.size); have HB_5 : Hid (Below w.heap.size w w5) := Lib.hid (HB_4.out.trans (hb.mono HB_4.out.size)); have Sw_5 := Lib.hid (sd_of_own ho OKM.out); clear ho; clear hb)
        | (go_at_call 16; refine (equalEnum_any ms _ _ _ _ _ _ _ Sg_5.out Sw_5.out).mono ?_; rintro e w6 ⟨rfl, hb⟩; have ba_6 := keep1 hb ba_5; have va_6 := keep1 hb va_5; have bg_6 := keep1 hb bg_5; have Sa_6 := Lib.hid ((Sa_5.out.below hb).call hb.size); have Sg_6 := Lib.hid ((Sg_5.out.below hb).call hb.size); have Sw_6 := Lib.hid ((Sw_5.out.below hb).call hb.size); have HB_6 : Hid (Below w.heap.size w w6) := Lib.hid (HB_5.out.trans (hb.mono HB_5.out.size)); clear hb)
        | (go_at_call 17; refine (implVF_v dsa ba _ _ _ _ Sa_6.out (by omega) HV.out).mono ?_; rintro e w7 ⟨rfl, hb⟩; have ba_7 := keep1 hb ba_6; have va_7 := keep1 hb va_6; have bg_7 := keep1 hb bg_6; have Sa_7 := Lib.hid ((Sa_6.out.below hb).call hb.size); have Sg_7 := Lib.hid ((Sg_6.out.below hb).call hb.size); have Sw_7 := Lib.hid ((Sw_6.out.below hb).call hb.size); have HB_7 : Hid (Below w.heap.size w w7) := Lib.hid (HB_6.out.trans (hb.mono HB_6.out.size)); clear hb))
    go_wp2_with fail
    go_region_held3 (fun w' => w'.cell? ⟨w3.heap.size, 0, none⟩ = some (.slice Ag ms.length cg) ∧ w'.cell? ⟨w1.heap.size, 0, none⟩ = some (.slice Aa dsa.length ca) ∧ w'.cell? ⟨w1.heap.size, 1, none⟩ = some (.int .i64 ba))
      (first | go_keep | exact ⟨bg_7, ba_7, va_7⟩ | exact ⟨bg_8, ba_8, va_8⟩ | exact ⟨bg_9, ba_9, va_9⟩)
      (first
        | (go_at_call 7; refine (HSP.out _ _ _ _ (Sa_7.out.drewN 1) (by omega)).mono ?_; rintro e w8 ⟨Av, cv, rfl, ho, hb⟩; replace hb : Below w7.heap.size w7 w8 := (by first | exact hb | exact undrew hb); have ba_8 := keep1 hb ba_7; have va_8 := keep1 hb va_7; have bg_8 := keep1 hb bg_7; have Sa_8 := Lib.hid ((Sa_7.out.below hb).call hb.size); have Sg_8 := Lib.hid ((Sg_7.out.below hb).call hb.size); have Sw_8 := Lib.hid ((Sw_7.out.below hb).call hb.size); have HB_8 : Hid (Below w.heap.size w w8) := Lib.hid (HB_7.out.trans (hb.mono HB_7.out.size)); have Sv_8 := Lib.hid (sd_of_own ho OKM.out); clear ho; clear hb)
        | (go_at_call 16; refine (equalEnum_any ms _ _ _ _ _ _ _ Sg_8.out Sv_8.out).mono ?_; rintro e w9 ⟨rfl, hb⟩; have ba_9 := keep1 hb ba_8; have va_9 := keep1 hb va_8; have bg_9 := keep1 hb bg_8; have Sa_9 := Lib.hid ((Sa_8.out.below hb).call hb.size); have Sg_9 := Lib.hid ((Sg_8.out.below hb).call hb.size); have Sw_9 := Lib.hid ((Sw_8.out.below hb).call hb.size); have Sv_9 := Lib.hid ((Sv_8.out.below hb).call hb.size); have HB_9 : Hid (Below w.heap.size w w9) := Lib.hid (HB_8.out.trans (hb.mono HB_8.out.size)); clear hb))
    go_wp2
    go_ret
    exact ⟨by first | rfl | kernel_rfl | (go_simp; done), HB_9.out⟩
  have HV := Lib.hid hv
  have HF := Lib.hid (HFIT.out hv)
  clear hv HFIT
  go_wp2_with fail
  rw [HW4.out]
  clear lf_ba lf_va lf_bg
  go_region_held3 (fun w' => w'.cell? ⟨w3.heap.size, 0, none⟩ = some (.slice Ag ms.length cg) ∧ w'.cell? ⟨w1.heap.size, 0, none⟩ = some (.slice Aa dsa.length ca) ∧ w'.cell? ⟨w1.heap.size, 1, none⟩ = some (.int .i64 ba))
    (first | go_keep | exact ⟨bg_4, ba_4, va_4⟩ | exact ⟨bg_5, ba_5, va_5⟩ | exact ⟨bg_6, ba_6, va_6⟩ | exact ⟨bg_7, ba_7, va_7⟩)
    (first
      | (go_at_call 7; refine (HSP.out _ _ _ _ (Sa_4.out.drewN 1) (by omega)).mono ?_; rintro e w5 ⟨Aw, cw, rfl, ho, hb⟩; replace hb : Below w4.heap.size w4 w5 := (by first | exact hb | exact undrew hb); have ba_5 := keep1 hb ba_4; have va_5 := keep1 hb va_4; have bg_5 := keep1 hb bg_4; have Sa_5 := Lib.hid ((Sa_4.out.below hb).call hb.size); have Sg_5 := Lib.hid ((Sg_4.out.below hb).call hb.size); have HB_5 : Hid (Below w.heap.size w w5) := Lib.hid (HB_4.out.trans (hb.mono HB_4.out.size)); have Sw_5 := Lib.hid (sd_of_own ho OKM.out); clear ho; clear hb)
      | (go_at_call 16; refine (equalEnum_any ms _ _ _ _ _ _ _ Sg_5.out Sw_5.out).mono ?_; rintro e w6 ⟨rfl, hb⟩; have ba_6 := keep1 hb ba_5; have va_6 := keep1 hb va_5; have bg_6 := keep1 hb bg_5; have Sa_6 := Lib.hid ((Sa_5.out.below hb).call hb.size); have Sg_6 := Lib.hid ((Sg_5.out.below hb).call hb.size); have Sw_6 := Lib.hid ((Sw_5.out.below hb).call hb.size); have HB_6 : Hid (Below w.heap.size w w6) := Lib.hid (HB_5.out.trans (hb.mono HB_5.out.size)); clear hb)
      | (go_at_call 17; refine (implVF_v dsa ba _ _ _ _ Sa_6.out (by omega) HV.out).mono ?_; rintro e w7 ⟨rfl, hb⟩; have ba_7 := keep1 hb ba_6; have va_7 := keep1 hb va_6; have bg_7 := keep1 hb bg_6; have Sa_7 := Lib.hid ((Sa_6.out.below hb).call hb.size); have Sg_7 := Lib.hid ((Sg_6.out.below hb).call hb.size); have Sw_7 := Lib.hid ((Sw_6.out.below hb).call hb.size); have HB_7 : Hid (Below w.heap.size w w7) := Lib.hid (HB_6.out.trans (hb.mono HB_6.out.size)); clear hb))
  have HVE := Lib.hid HF.out.ve
  have HME := Lib.hid HF.out.mem
  have OKS : Hid (∀ s ∈ mSgOf dsa ba, s.size ≤ maxLen) := Lib.hid (mSgOf_ok HOKa.out)
  have hsl : (mSgOf dsa ba).length ≤ 12 := mSgOf_len _ _
  have HSG : Hid (∀ (A : Option Addr) (n c : Nat) (w : World), SD w w.heap.size A n c dsa → n ≤ 1048576 → Calls Tryd.prog 18 #[.agg #[.slice A n c, .int .i64 ba]] w (StrsP (mSgOf dsa ba) w)) := Lib.hid fun A n c w h hn => implSgOf_any dsa ba A n c w h hn
  have HMM : Hid (∀ (A : Option Addr) (c n : Nat) (w : World), SD w w.heap.size A n c (mSort ms) → Calls Tryd.prog 19 #[.agg #[.slice A n c]] w (StrsP (mSgOf dsa ba) w)) := Lib.hid (by rw [← HME.out]; exact fun A c n w h => implMembersOf_any (mSort ms) A c n w h)
  have HSO : Hid (∀ (A : Option Addr) (n c : Nat) (w : World), SD w w.heap.size A n c ms → Calls Tryd.prog 20 #[.agg #[.slice A n c]] w (EnumE (mSort ms) w)) := Lib.hid fun A n c w h => implSort_any ms A n c w h
  have OKT : Hid (∀ d ∈ mSort ms, d.ok) := Lib.hid (fun d hd => OKM.out d (mSort_mem hd))
  have htl : (mSort ms).length ≤ 12 := mSort_len ms
  clear HF HME
  unfold StrsP at HSG HMM
  unfold EnumE at HSO
  generalize mSgOf dsa ba = ss at *
  generalize mSort ms = ts at *
  go_wp2_with fail
  refine (HSG.out _ _ _ _ Sa_7.out (by omega)).mono ?_
  rintro e w8 ⟨As, cs, rfl, ho, hb⟩
  have ba_8 := keep1 hb ba_7
  have va_8 := keep1 hb va_7
  have bg_8 := keep1 hb bg_7
  have Sa_8 := Lib.hid ((Sa_7.out.below hb).call hb.size)
  have Sg_8 := Lib.hid ((Sg_7.out.below hb).call hb.size)
  have HB_8 : Hid (Below w.heap.size w w8) := Lib.hid (HB_7.out.trans (hb.mono HB_7.out.size))
  have Ss_8 := Lib.hid (ss_of_own ho OKS.out)
  clear hb ho ba_7 va_7 bg_7 Sa_7 Sg_7 HB_7
  go_wp2_with fail
  refine (HSO.out _ _ _ _ Sg_8.out).mono ?_
  rintro e w9 ⟨At, ct, rfl, ho, hb⟩
  have ba_9 := keep1 hb ba_8
  have va_9 := keep1 hb va_8
  have bg_9 := keep1 hb bg_8
  have Sa_9 := Lib.hid ((Sa_8.out.below hb).call hb.size)
  have Sg_9 := Lib.hid ((Sg_8.out.below hb).call hb.size)
  have Ss_9 := Lib.hid ((Ss_8.out.below hb).call hb.size)
  have HB_9 : Hid (Below w.heap.size w w9) := Lib.hid (HB_8.out.trans (hb.mono HB_8.out.size))
  have St_9 := Lib.hid (sd_of_own ho OKT.out)
  clear hb ho ba_8 va_8 bg_8 Sa_8 Sg_8 Ss_8 HB_8
  go_wp2_with fail
  refine (HMM.out _ _ _ _ St_9.out).mono ?_
  rintro e w10 ⟨Al, cl, rfl, ho, hb⟩
  have ba_10 := keep1 hb ba_9
  have va_10 := keep1 hb va_9
  have bg_10 := keep1 hb bg_9
  have Sa_10 := Lib.hid ((Sa_9.out.below hb).call hb.size)
  have Sg_10 := Lib.hid ((Sg_9.out.below hb).call hb.size)
  have Ss_10 := Lib.hid ((Ss_9.out.below hb).call hb.size)
  have St_10 := Lib.hid ((St_9.out.below hb).call hb.size)
  have HB_10 : Hid (Below w.heap.size w w10) := Lib.hid (HB_9.out.trans (hb.mono HB_9.out.size))
  have Sl_10 := Lib.hid (ss_of_own ho OKS.out)
  clear hb ho ba_9 va_9 bg_9 Sa_9 Sg_9 Ss_9 St_9 HB_9
  go_wp2_with fail
  refine (implVE_v ms _ _ _ _ Sg_10.out HVE.out).mono ?_
  rintro e w11 ⟨rfl, hb⟩
  have ba_11 := keep1 hb ba_10
  have va_11 := keep1 hb va_10
  have bg_11 := keep1 hb bg_10
  have Sa_11 := Lib.hid ((Sa_10.out.below hb).call hb.size)
  have Sg_11 := Lib.hid ((Sg_10.out.below hb).call hb.size)
  have Ss_11 := Lib.hid ((Ss_10.out.below hb).call hb.size)
  have St_11 := Lib.hid ((St_10.out.below hb).call hb.size)
  have Sl_11 := Lib.hid ((Sl_10.out.below hb).call hb.size)
  have HB_11 : Hid (Below w.heap.size w w11) := Lib.hid (HB_10.out.trans (hb.mono HB_10.out.size))
  clear hb  ba_10 va_10 bg_10 Sa_10 Sg_10 Ss_10 St_10 Sl_10 HB_10
  go_wp2_with fail
  refine (equalTexts_any ss _ _ _ _ _ _ _ Sl_11.out Ss_11.out).mono ?_
  rintro e w12 ⟨rfl, hb⟩
  have ba_12 := keep1 hb ba_11
  have va_12 := keep1 hb va_11
  have bg_12 := keep1 hb bg_11
  have Sa_12 := Lib.hid ((Sa_11.out.below hb).call hb.size)
  have Sg_12 := Lib.hid ((Sg_11.out.below hb).call hb.size)
  have Ss_12 := Lib.hid ((Ss_11.out.below hb).call hb.size)
  have St_12 := Lib.hid ((St_11.out.below hb).call hb.size)
  have Sl_12 := Lib.hid ((Sl_11.out.below hb).call hb.size)
  have HB_12 : Hid (Below w.heap.size w w12) := Lib.hid (HB_11.out.trans (hb.mono HB_11.out.size))
  clear hb  ba_11 va_11 bg_11 Sa_11 Sg_11 Ss_11 St_11 Sl_11 HB_11
  go_wp2
  go_ret
  exact ⟨by first | rfl | kernel_rfl | (go_simp; done), HB_12.out⟩

theorem lifted (os : Os) (started : os.Started) (H : Type) (enc : TypeId × Value → H) :
    ReturnsInHanded {} Tryd.checked os 4 .any (fun w args => (Rows.fnEnumOfSpec.pre enc Tryd.prog Tryd.f4 [] false w args ∧ laidMetH Tryd.prog laidL w) ∧ sizedMet enc Tryd.prog Tryd.f4 (OpenSpec.ofChange Rows.fnEnumOfSpec) false w args) (Rows.fnEnumOfSpec.post enc Tryd.prog Tryd.f4 false true false false) := by
  refine returnsInHanded_of_change_and (C := Tryd.checked) (X := fun w _ => laidMetH Tryd.prog laidL w) (fun _ _ _ hh h => h.of_heap hh) own started (by kernel_rfl) Tryd.func4
    (ChangeSpec.witness_shaped (enc := enc) (C := Tryd.checked) (os := os) (X := fun w _ => laidMetH Tryd.prog laidL w) false (World.doorLaid Tryd.prog 400 os) #[.slice none 0 0] 8 rfl (World.shaped_of_RefB (by kernel_rfl) (by kernel_rfl)) (by kernel_rfl) (by kernel_rfl) (by kernel_rfl) (door_met os _)) ?_
  intro W base args ds gs before hval0 hW hcnd _ hL _
  have hval : ∀ (j : Nat) t v, Tryd.f4.params[j]? = some t → args[j]? = some v → Value.okWide Tryd.prog W .any base t v := hval0
  have hW' := hW
  obtain ⟨p, q, hA0, hV, rfl, hfz, hnd⟩ := hW
  have hA : DataW.TrodAll enc Tryd.prog W 0 (fun _ => true) true Tryd.f4.params.toList args.toList ds p := hA0
  rw [Tryd.params4] at hA hval
  obtain ⟨v0, vs0, d0, ds0, p0, q0, hargs, rfl, rfl, h0, r0⟩ := trodAll_cons hA
  obtain ⟨rfl, rfl, rfl⟩ := trodAll_nil r0
  obtain rfl : args = #[v0] := by cases args; simp_all
  obtain ⟨rfl, rfl⟩ := trodVars_none hV
  have k0 := h0
  have lt0 : ∀ x ∈ p0, x.block < W.heap.size := by obtain ⟨m, hm⟩ := k0; exact DataW.trod_lt m _ _ _ hm
  obtain ⟨A0, n0, c0, l0, rfl, w0⟩ := open_code (hval 0 38 v0 rfl rfl) h0
  clear hA0 hval0
  refine (walk A0 n0 c0 l0 W w0 (tab_of_laid hL)).mono fun e W' ⟨he, bel⟩ => ?_
  subst he
  exact ⟨_, rfl, _, _, _, [], _, [], hW', trodAll_mk1 (shut_bool Tryd.underlying4 _), (trodAll_cons_mk (Below.trod laidOut (by kernel_rfl) (of_decide_eq_true (by kernel_rfl)) k0 bel lt0) trodAll_mk0), rfl, bel.frame _, fun h => by cases h⟩

theorem over : Rows.fnEnumOfRow.holds Tryd.pinned (OpenSpec.ofChange Rows.fnEnumOfSpec) :=
  OpenClaim.holds_of_wide 4 Tryd.f4 rfl rfl rfl rfl rfl rfl rfl ⟨rfl, rfl, rfl, rfl, rfl⟩ rfl rfl rfl rfl rfl (by kernel_rfl) Tryd.func4 (by kernel_rfl)
    (of_decide_eq_true (by kernel_rfl)) (by unfold Func.isWrapper; first | (rw [if_pos (by decide +kernel)]; kernel_rfl) | (rw [if_neg (by decide +kernel)]; exact ⟨rfl, rfl⟩))
    (fun os started H enc _ => lifted os started H enc)

theorem proved : Rows.FnEnumOfCardSaid :=
  Claim7.holds_tied_plain_at .later [] laidK true _ false
    over (fun _ h => by cases h) (by kernel_rfl) (fun _ h => by cases h) fnEnumOf_row_tie rfl ⟨rfl, rfl⟩ (by kernel_rfl) rfl
    (fun f fn hf hfn => by
      obtain rfl : f = 4 := (Option.some.inj ((show Tryd.prog.funcNamed "loop.example/namedflags/laws.FnEnumOf" = some 4 by kernel_rfl).symm.trans hf)).symm
      obtain rfl : fn = Tryd.f4 := (Option.some.inj (Tryd.func4.symm.trans hfn)).symm
      exact ⟨by kernel_rfl, fun j t ht => by
        have hm := Array.mem_of_getElem? ht
        have hall : (List.all (Array.toList Tryd.f4.params) fun u => !Tryd.prog.wantsStandIn u) = true := by kernel_rfl
        exact (show Tryd.prog.wantsStandIn t = false by simpa using List.all_eq_true.1 hall t (by simpa using hm))⟩)
    (by kernel_rfl)
end Go.Proofs.YteaiaglangmhbaaDoor.fnEnumOf
