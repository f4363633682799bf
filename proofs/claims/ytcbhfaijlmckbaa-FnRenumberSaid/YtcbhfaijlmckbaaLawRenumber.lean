/-
For every code the law of renumbered enumerations returns true: the program's Renumber answers as its model, its members are the same, with the values from 0 on, there are no gaps, and it is its own.
Conditions: none.
-/
import Derived.Test.YtcbhfaijlmckbaaGenD
import Derived.Test.YtcbhfaijlmckbaaLFun
import Derived.Test.YtcbhfaijlmckbaaOpenC
import Derived.Test.YtcbhfaijlmckbaaLEq
import Derived.Test.YtcbhfaijlmckbaaLRen
import Derived.Test.YtcbhfaijlmckbaaConvT
import Derived.Test.YtcbhfaijlmckbaaConvJ
import Derived.Test.YtcbhfaijlmckbaaLBase
namespace Go.Proofs.Ytcbhfaijlmckbaa.fnRenumber
open Go.ChangeShapes Go.WideShapes Go.ChangeAt Go.RowKit
open Go.ChangeMaps (open_string shut_string)
set_option linter.unusedVariables false
set_option maxRecDepth 100000

set_option maxHeartbeats 16000000 in
theorem walk (A : Option Addr) (n c : Nat) (zs : List Int) (w : World) (h : SB w w.heap.size A n c zs) :
    Calls Try.prog 3 #[.slice A n c] w fun e w' => e = .returned (.bool true) ∧ Below w.heap.size w w' := by
  have hm := h.max
  have hcap := h.cap
  unfold maxLen at hm
  have HS0 := Lib.hid h
  clear h
  by_cases hbig : 1048576 < (n : Int)
  · go_enter Try.func3, Try.ntmps3
    go_wp2
    go_ret
    exact ⟨rfl, Below.refl _ _⟩
  go_enter Try.func3, Try.ntmps3
  go_wp2_with fail
  refine (drawRenumber_any A n c zs _ HS0.out).mono ?_
  rintro e w1 ⟨Aa, ca, dsa, rfl, hn, hsma, hsa, hb⟩
  have HB_1 := Lib.hid hb
  have Sa_1 := Lib.hid hsa
  have HSMa := Lib.hid hsma
  have HOKa : Hid (∀ d ∈ dsa, d.ok) := Lib.hid (fun d hd => small_ok (hsma d hd))
  clear hb hsa hsma
  obtain ⟨w2, hw⟩ : ∃ W : World, W = (w1.alloc (.cells #[.slice Aa dsa.length ca] 25)) := ⟨_, rfl⟩
  have hb : Below w1.heap.size w1 w2 := by rw [hw]; exact ((Below.refl _ _).alloc (by first | exact Nat.le_refl _ | (simp; done) | (simp; omega)) _)
  have Sa_2 := Lib.hid ((Sa_1.out.below hb).call hb.size)
  have HB_2 : Hid (Below w.heap.size w w2) := Lib.hid (HB_1.out.trans (hb.mono HB_1.out.size))
  have ba_2 : w2.cell? ⟨w1.heap.size, 0, none⟩ = some (.slice Aa dsa.length ca) := by rw [hw]; simp [go_sem]
  have lf_ba : (w1.alloc (.cells #[.slice Aa dsa.length ca] 25)).cell? ⟨w1.heap.size, 0, none⟩ = some (.slice Aa dsa.length ca) := by rw [← hw]; exact ba_2
  have HW2 : Hid ((w1.alloc (.cells #[.slice Aa dsa.length ca] 25)) = w2) := Lib.hid hw.symm
  clear hb hw Sa_1 HB_1
  have OKM0 : ∀ d ∈ mRenum dsa, d.ok := byR_ok HOKa.out fun r h => idR_i h
  have hml : (mRenum dsa).length ≤ 12 := byR_len _ _
  have HIM : Hid (∀ (A : Option Addr) (n c : Nat) (w : World), SD w w.heap.size A n c dsa → Calls Try.prog 15 #[.agg #[.slice A n c]] w (EnumE (mRenum dsa) w)) := Lib.hid fun A n c w h => implRenum_any dsa A n c w h
  have HSP : Hid (∀ (A : Option Addr) (n c : Nat) (w : World), SD w w.heap.size A n c dsa → Calls Try.prog 17 #[.agg #[.slice A n c]] w (EnumE (mRenum dsa) w)) := Lib.hid fun A n c w h => specRenum_any dsa A n c w h
  unfold EnumE at HIM HSP
  have HFIT : Hid (vEnum dsa = true → RenL dsa (mRenum dsa) (mMembers dsa)) := Lib.hid (fun h => ren_law h)
  generalize mRenum dsa = ms at *
  have OKM := Lib.hid OKM0
  clear OKM0
  go_wp2_with fail
  rw [HW2.out]
  clear lf_ba
  refine (HIM.out _ _ _ _ Sa_2.out).mono ?_
  rintro e w3 ⟨Ag, cg, rfl, ho, hb⟩
  have ba_3 := keep1 hb ba_2
  have Sa_3 := Lib.hid ((Sa_2.out.below hb).call hb.size)
  have HB_3 : Hid (Below w.heap.size w w3) := Lib.hid (HB_2.out.trans (hb.mono HB_2.out.size))
  have Sg_3 := Lib.hid (sd_of_own ho OKM.out)
  clear hb ho ba_2 Sa_2 HB_2
  obtain ⟨w4, hw⟩ : ∃ W : World, W = (w3.alloc (.cells #[.slice Ag ms.length cg] 25)) := ⟨_, rfl⟩
  have hb : Below w3.heap.size w3 w4 := by rw [hw]; exact ((Below.refl _ _).alloc (by first | exact Nat.le_refl _ | (simp; done) | (simp; omega)) _)
  have ba_4 := keep1 hb ba_3
  have Sa_4 := Lib.hid ((Sa_3.out.below hb).call hb.size)
  have Sg_4 := Lib.hid ((Sg_3.out.below hb).call hb.size)
  have HB_4 : Hid (Below w.heap.size w w4) := Lib.hid (HB_3.out.trans (hb.mono HB_3.out.size))
  have bg_4 : w4.cell? ⟨w3.heap.size, 0, none⟩ = some (.slice Ag ms.length cg) := by rw [hw]; simp [go_sem]
  have lf_ba : (w3.alloc (.cells #[.slice Ag ms.length cg] 25)).cell? ⟨w1.heap.size, 0, none⟩ = some (.slice Aa dsa.length ca) := by rw [← hw]; exact ba_4
  have lf_bg : (w3.alloc (.cells #[.slice Ag ms.length cg] 25)).cell? ⟨w3.heap.size, 0, none⟩ = some (.slice Ag ms.length cg) := by rw [← hw]; exact bg_4
  have HW4 : Hid ((w3.alloc (.cells #[.slice Ag ms.length cg] 25)) = w4) := Lib.hid hw.symm
  clear hb hw ba_3 Sa_3 Sg_3 HB_3
  cases hv : vEnum dsa
  · skip
    have HV := Lib.hid hv
    clear hv
    go_wp2_with fail
    rw [HW4.out]
    clear lf_ba lf_bg
    go_region_held3 (fun w' => w'.cell? ⟨w3.heap.size, 0, none⟩ = some (.slice Ag ms.length cg) ∧ w'.cell? ⟨w1.heap.size, 0, none⟩ = some (.slice Aa dsa.length ca))
      (first | go_keep | exact ⟨bg_4, ba_4⟩ | exact ⟨bg_5, ba_5⟩ | exact ⟨bg_6, ba_6⟩ | exact ⟨bg_7, ba_7⟩)
      (first
        | (go_at_call 17; refine (HSP.out _ _ _ _ (Sa_4.out.drewN 1)).mono ?_; rintro e w5 ⟨Aw, cw, rfl, ho, hb⟩; replace hb : Below w4.heap.size w4 w5 := (by first | exact hb | exact undrew hb); have ba_5 := keep1 hb ba_4; have bg_5 := keep1 hb bg_4; have Sa_5 := Lib.hid ((Sa_4.out.below hb).call hb.size); have Sg_5 := Lib.hid ((Sg_4.out.below hb).call hb.size); have HB_5 : Hid (Below w.heap.size w w5) := Lib.hid (HB_4.out.trans (hb.mono HB_4.out.size)); have Sw_5 := Lib.hid (sd_of_own ho OKM.out); clear ho; clear hb)
        | (go_at_call 16; refine (equalEnum_any ms _ _ _ _ _ _ _ Sg_5.out Sw_5.out).mono ?_; rintro e w6 ⟨rfl, hb⟩; have ba_6 := keep1 hb ba_5; have bg_6 := keep1 hb bg_5; have Sa_6 := Lib.hid ((Sa_5.out.below hb).call hb.size); have Sg_6 := Lib.hid ((Sg_5.out.below hb).call hb.size); have Sw_6 := Lib.hid ((Sw_5.out.below hb).call hb.size); have HB_6 : Hid (Below w.heap.size w w6) := Lib.hid (HB_5.out.trans (hb.mono HB_5.out.size)); clear hb)
        | (go_at_call 18; refine (implVE_v dsa _ _ _ _ Sa_6.out HV.out).mono ?_; rintro e w7 ⟨rfl, hb⟩; have ba_7 := keep1 hb ba_6; have bg_7 := keep1 hb bg_6; have Sa_7 := Lib.hid ((Sa_6.out.below hb).call hb.size); have Sg_7 := Lib.hid ((Sg_6.out.below hb).call hb.size); have Sw_7 := Lib.hid ((Sw_6.out.below hb).call hb.size); have HB_7 : Hid (Below w.heap.size w w7) := Lib.hid (HB_6.out.trans (hb.mono HB_6.out.size)); clear hb))
    go_wp2_with fail
    go_region_held3 (fun w' => w'.cell? ⟨w3.heap.size, 0, none⟩ = some (.slice Ag ms.length cg) ∧ w'.cell? ⟨w1.heap.size, 0, none⟩ = some (.slice Aa dsa.length ca))
      (first | go_keep | exact ⟨bg_7, ba_7⟩ | exact ⟨bg_8, ba_8⟩ | exact ⟨bg_9, ba_9⟩)
      (first
        | (go_at_call 17; refine (HSP.out _ _ _ _ (Sa_7.out.drewN 1)).mono ?_; rintro e w8 ⟨Av, cv, rfl, ho, hb⟩; replace hb : Below w7.heap.size w7 w8 := (by first | exact hb | exact undrew hb); have ba_8 := keep1 hb ba_7; have bg_8 := keep1 hb bg_7; have Sa_8 := Lib.hid ((Sa_7.out.below hb).call hb.size); have Sg_8 := Lib.hid ((Sg_7.out.below hb).call hb.size); have Sw_8 := Lib.hid ((Sw_7.out.below hb).call hb.size); have HB_8 : Hid (Below w.heap.size w w8) := Lib.hid (HB_7.out.trans (hb.mono HB_7.out.size)); have Sv_8 := Lib.hid (sd_of_own ho OKM.out); clear ho; clear hb)
        | (go_at_call 16; refine (equalEnum_any ms _ _ _ _ _ _ _ Sg_8.out Sv_8.out).mono ?_; rintro e w9 ⟨rfl, hb⟩; have ba_9 := keep1 hb ba_8; have bg_9 := keep1 hb bg_8; have Sa_9 := Lib.hid ((Sa_8.out.below hb).call hb.size); have Sg_9 := Lib.hid ((Sg_8.out.below hb).call hb.size); have Sw_9 := Lib.hid ((Sw_8.out.below hb).call hb.size); have Sv_9 := Lib.hid ((Sv_8.out.below hb).call hb.size); have HB_9 : Hid (Below w.heap.size w w9) := Lib.hid (HB_8.out.trans (hb.mono HB_8.out.size)); clear hb))
    go_wp2
    go_ret
    exact ⟨rfl, HB_9.out⟩
  have HV := Lib.hid hv
  have HF := Lib.hid (HFIT.out hv)
  clear hv HFIT
  go_wp2_with fail
  rw [HW4.out]
  clear lf_ba lf_bg
  go_region_held3 (fun w' => w'.cell? ⟨w3.heap.size, 0, none⟩ = some (.slice Ag ms.length cg) ∧ w'.cell? ⟨w1.heap.size, 0, none⟩ = some (.slice Aa dsa.length ca))
    (first | go_keep | exact ⟨bg_4, ba_4⟩ | exact ⟨bg_5, ba_5⟩ | exact ⟨bg_6, ba_6⟩ | exact ⟨bg_7, ba_7⟩)
    (first
      | (go_at_call 17; refine (HSP.out _ _ _ _ (Sa_4.out.drewN 1)).mono ?_; rintro e w5 ⟨Aw, cw, rfl, ho, hb⟩; replace hb : Below w4.heap.size w4 w5 := (by first | exact hb | exact undrew hb); have ba_5 := keep1 hb ba_4; have bg_5 := keep1 hb bg_4; have Sa_5 := Lib.hid ((Sa_4.out.below hb).call hb.size); have Sg_5 := Lib.hid ((Sg_4.out.below hb).call hb.size); have HB_5 : Hid (Below w.heap.size w w5) := Lib.hid (HB_4.out.trans (hb.mono HB_4.out.size)); have Sw_5 := Lib.hid (sd_of_own ho OKM.out); clear ho; clear hb)
      | (go_at_call 16; refine (equalEnum_any ms _ _ _ _ _ _ _ Sg_5.out Sw_5.out).mono ?_; rintro e w6 ⟨rfl, hb⟩; have ba_6 := keep1 hb ba_5; have bg_6 := keep1 hb bg_5; have Sa_6 := Lib.hid ((Sa_5.out.below hb).call hb.size); have Sg_6 := Lib.hid ((Sg_5.out.below hb).call hb.size); have Sw_6 := Lib.hid ((Sw_5.out.below hb).call hb.size); have HB_6 : Hid (Below w.heap.size w w6) := Lib.hid (HB_5.out.trans (hb.mono HB_5.out.size)); clear hb)
      | (go_at_call 18; refine (implVE_v dsa _ _ _ _ Sa_6.out HV.out).mono ?_; rintro e w7 ⟨rfl, hb⟩; have ba_7 := keep1 hb ba_6; have bg_7 := keep1 hb bg_6; have Sa_7 := Lib.hid ((Sa_6.out.below hb).call hb.size); have Sg_7 := Lib.hid ((Sg_6.out.below hb).call hb.size); have Sw_7 := Lib.hid ((Sw_6.out.below hb).call hb.size); have HB_7 : Hid (Below w.heap.size w w7) := Lib.hid (HB_6.out.trans (hb.mono HB_6.out.size)); clear hb))
  have HM1 := Lib.hid HF.out.mem
  have hnl : (mMembers dsa).length ≤ 12 := mMembers_len dsa
  have HO1 := Lib.hid (mMembers_ok HOKa.out)
  have HM0 : Hid (mMembers dsa = mMembers dsa) := Lib.hid rfl
  have HAT := Lib.hid HF.out.at_
  have HGP := Lib.hid HF.out.gaps
  have HVM := Lib.hid HF.out.ve
  have HTWO := Lib.hid HF.out.same
  have HMD : Hid (∀ (A : Option Addr) (c n : Nat) (w : World), SD w w.heap.size A n c dsa → Calls Try.prog 19 #[.agg #[.slice A n c]] w (StrsP (mMembers dsa) w)) := Lib.hid fun A c n w h => implMembersOf_any dsa A c n w h
  clear HF HM0
  generalize mMembers dsa = ns at *
  unfold StrsP at HMD
  go_wp2_with fail
  refine (implMembersOf_v ms _ _ _ _ Sg_7.out HM1.out).mono ?_
  rintro e w8 ⟨An, cn, rfl, ho, hb⟩
  have ba_8 := keep1 hb ba_7
  have bg_8 := keep1 hb bg_7
  have Sa_8 := Lib.hid ((Sa_7.out.below hb).call hb.size)
  have Sg_8 := Lib.hid ((Sg_7.out.below hb).call hb.size)
  have HB_8 : Hid (Below w.heap.size w w8) := Lib.hid (HB_7.out.trans (hb.mono HB_7.out.size))
  have Xn_8 := Lib.hid (ss_of_own ho HO1.out)
  clear hb ho ba_7 bg_7 Sa_7 Sg_7 HB_7
  go_wp2_with fail
  go_loopw [6] (fun i wr => ∃ (k : Nat), k ≤ ns.length ∧ i = .int .i64 k ∧ Hid (Below w.heap.size w wr) ∧ Hid (wr.cell? ⟨w1.heap.size, 0, none⟩ = some (.slice Aa dsa.length ca)) ∧ Hid (wr.cell? ⟨w3.heap.size, 0, none⟩ = some (.slice Ag ms.length cg)) ∧ Hid (SD wr wr.heap.size Aa dsa.length ca dsa) ∧ Hid (SD wr wr.heap.size Ag ms.length cg ms) ∧ Hid (SS wr wr.heap.size An ns.length cn ns)) (fun i _ => ns.length - (intOf i).toNat)
  case atStart => exact ⟨0, Nat.zero_le _, rfl, HB_8, Lib.hid ba_8, Lib.hid bg_8, Sa_8, Sg_8, Xn_8⟩
  case round =>
    obtain ⟨k, hk, rfl, hbel, hca, hcg, hsa, hsg, hxn⟩ := hrel
    clear ba_8 bg_8 HB_8 Sa_8 Sg_8 Xn_8
    have y1 := hca.out
    have y2 := hcg.out
    clear hca hcg
    by_cases hlt : k < ns.length
    · obtain ⟨b, o, hA, hbb, x1⟩ := hxn.out.at_ hlt
      subst hA
      obtain ⟨j, hj, hxj, hvj⟩ := HAT.out k hlt
      have HXJ := Lib.hid hxj
      have HVJ : Hid (∃ q, ∃ hq : q < ms.length, fidx (isNm ns[k]) ms = (q : Int) ∧ ms[q].val = (k : Int)) := Lib.hid ⟨j, hj, hxj, hvj⟩
      clear hxj hvj
      generalize ns[k] = t at *
      have hi1 : (k : Int) < (ns.length : Int) := by omega
      have hi0 : (0 : Int) ≤ (k : Int) := by omega
      obtain ⟨w40, hwn⟩ : ∃ W : World, W = wr := ⟨_, rfl⟩
      subst hwn
      have HB_40 := hbel
      have ba_40 := y1
      have bg_40 := y2
      have Sa_40 := hsa
      have Sg_40 := hsg
      have Xn_40 := hxn
      have x1_40 := x1
      clear hbel y1 y2 hsa hsg hxn x1
      go_wp2_with fail
      go_region_held3 (fun w' => w'.cell? ⟨w3.heap.size, 0, none⟩ = some (.slice Ag ms.length cg) ∧ w'.cell? ⟨b, o + k, none⟩ = some (.string t))
        (first | go_keep | exact ⟨bg_40, x1_40⟩ | exact ⟨bg_41, x1_41⟩)
        (first
          | (go_at_call 20; refine (implValue_at ms _ _ _ _ _ (Sg_40.out.drewN 1) HVM.out HVJ.out).mono ?_; rintro e w41 ⟨rfl, hb⟩; replace hb : Below w40.heap.size w40 w41 := (by first | exact hb | exact undrew hb); have ba_41 := keep1 hb ba_40; have bg_41 := keep1 hb bg_40; have x1_41 := keep1 hb x1_40; have Sa_41 := Lib.hid ((Sa_40.out.below hb).call hb.size); have Sg_41 := Lib.hid ((Sg_40.out.below hb).call hb.size); have Xn_41 := Lib.hid ((Xn_40.out.below hb).call hb.size); have HB_41 : Hid (Below w.heap.size w w41) := Lib.hid (HB_40.out.trans (hb.mono HB_40.out.size)); clear hb))
      go_wp2
      go_roundw
      case rel => exact ⟨k + 1, by omega, by go_num, HB_41, Lib.hid ba_41, Lib.hid bg_41, Sa_41, Sg_41, Xn_41⟩
      case measure => simp [intOf]; omega
    · obtain rfl : k = ns.length := by omega
      obtain ⟨w40, hwn⟩ : ∃ W : World, W = wr := ⟨_, rfl⟩
      subst hwn
      have HB_40 := hbel
      have ba_40 := y1
      have bg_40 := y2
      have Sa_40 := hsa
      have Sg_40 := hsg
      have Xn_40 := hxn
      clear hbel y1 y2 hsa hsg hxn
      have HIM2 : Hid (∀ (A : Option Addr) (n c : Nat) (w : World), SD w w.heap.size A n c ms → Calls Try.prog 15 #[.agg #[.slice A n c]] w (EnumE ms w)) := Lib.hid fun A n c w h => (by have := implRenum_any ms A n c w h; rw [HTWO.out] at this; exact this)
      unfold EnumE at HIM2
      have HGG : Hid (∀ (A : Option Addr) (c n : Nat) (w : World), SD w w.heap.size A n c ms → Calls Try.prog 22 #[.agg #[.slice A n c]] w fun e w' => ∃ A' c', e = .returned (.slice A' 0 c') ∧ Below w.heap.size w w') := Lib.hid fun A c n w h => (implGapsOf_any ms A c n w h).mono fun e w' hh => by
        obtain ⟨A', c', h1, _, h3⟩ := hh
        rw [HGP.out] at h1
        exact ⟨A', c', h1, h3⟩
      go_wp2_with fail
      go_region_held3 (fun w' => w'.cell? ⟨w1.heap.size, 0, none⟩ = some (.slice Aa dsa.length ca) ∧ w'.cell? ⟨w3.heap.size, 0, none⟩ = some (.slice Ag ms.length cg))
        (first | go_keep | exact ⟨ba_40, bg_40⟩ | exact ⟨ba_41, bg_41⟩ | exact ⟨ba_42, bg_42⟩ | exact ⟨ba_43, bg_43⟩ | exact ⟨ba_44, bg_44⟩ | exact ⟨ba_45, bg_45⟩)
        (first
          | (go_at_call 19; refine (HMD.out _ _ _ _ (Sa_40.out.drewN 1)).mono ?_; rintro e w41 ⟨At, ct, rfl, ho, hb⟩; replace hb : Below w40.heap.size w40 w41 := (by first | exact hb | exact undrew hb); have ba_41 := keep1 hb ba_40; have bg_41 := keep1 hb bg_40; have Sa_41 := Lib.hid ((Sa_40.out.below hb).call hb.size); have Sg_41 := Lib.hid ((Sg_40.out.below hb).call hb.size); have Xn_41 := Lib.hid ((Xn_40.out.below hb).call hb.size); have HB_41 : Hid (Below w.heap.size w w41) := Lib.hid (HB_40.out.trans (hb.mono HB_40.out.size)); have Xt_41 := Lib.hid (ss_of_own ho HO1.out); clear ho; clear hb)
          | (go_at_call 21; refine (equalTexts_any ns _ _ _ _ _ _ _ Xn_41.out Xt_41.out).mono ?_; rintro e w42 ⟨rfl, hb⟩; have ba_42 := keep1 hb ba_41; have bg_42 := keep1 hb bg_41; have Sa_42 := Lib.hid ((Sa_41.out.below hb).call hb.size); have Sg_42 := Lib.hid ((Sg_41.out.below hb).call hb.size); have Xn_42 := Lib.hid ((Xn_41.out.below hb).call hb.size); have Xt_42 := Lib.hid ((Xt_41.out.below hb).call hb.size); have HB_42 : Hid (Below w.heap.size w w42) := Lib.hid (HB_41.out.trans (hb.mono HB_41.out.size)); clear hb)
          | (go_at_call 22; refine (HGG.out _ _ _ _ Sg_42.out).mono ?_; rintro e w43 ⟨Ax, cx, rfl, hb⟩; have ba_43 := keep1 hb ba_42; have bg_43 := keep1 hb bg_42; have Sa_43 := Lib.hid ((Sa_42.out.below hb).call hb.size); have Sg_43 := Lib.hid ((Sg_42.out.below hb).call hb.size); have Xn_43 := Lib.hid ((Xn_42.out.below hb).call hb.size); have Xt_43 := Lib.hid ((Xt_42.out.below hb).call hb.size); have HB_43 : Hid (Below w.heap.size w w43) := Lib.hid (HB_42.out.trans (hb.mono HB_42.out.size)); clear hb)
          | (go_at_call 15; refine (HIM2.out _ _ _ _ Sg_43.out).mono ?_; rintro e w44 ⟨Ah, ch, rfl, ho, hb⟩; have ba_44 := keep1 hb ba_43; have bg_44 := keep1 hb bg_43; have Sa_44 := Lib.hid ((Sa_43.out.below hb).call hb.size); have Sg_44 := Lib.hid ((Sg_43.out.below hb).call hb.size); have Xn_44 := Lib.hid ((Xn_43.out.below hb).call hb.size); have Xt_44 := Lib.hid ((Xt_43.out.below hb).call hb.size); have HB_44 : Hid (Below w.heap.size w w44) := Lib.hid (HB_43.out.trans (hb.mono HB_43.out.size)); have Sh_44 := Lib.hid (sd_of_own ho OKM.out); clear ho; clear hb)
          | (go_at_call 16; refine (equalEnum_any ms _ _ _ _ _ _ _ Sh_44.out Sg_44.out).mono ?_; rintro e w45 ⟨rfl, hb⟩; have ba_45 := keep1 hb ba_44; have bg_45 := keep1 hb bg_44; have Sa_45 := Lib.hid ((Sa_44.out.below hb).call hb.size); have Sg_45 := Lib.hid ((Sg_44.out.below hb).call hb.size); have Xn_45 := Lib.hid ((Xn_44.out.below hb).call hb.size); have Xt_45 := Lib.hid ((Xt_44.out.below hb).call hb.size); have Sh_45 := Lib.hid ((Sh_44.out.below hb).call hb.size); have HB_45 : Hid (Below w.heap.size w w45) := Lib.hid (HB_44.out.trans (hb.mono HB_44.out.size)); clear hb))
      go_wp2
      go_ret
      exact ⟨rfl, HB_45.out⟩

theorem lifted (os : Os) (started : os.Started) (H : Type) (enc : TypeId × Value → H) :
    ReturnsInHanded {} Try.checked os 3 .any (Rows.fnRenumberSpec.pre6 enc Try.prog Try.f3 Rows.fnRenumberRow.domain false) (Rows.fnRenumberSpec.post enc Try.prog Try.f3 false true false false) := by
  refine returnsInHanded_of_change (C := Try.checked) own started (by kernel_rfl) Try.func3
    (ChangeSpec.witness6 (enc := enc) (C := Try.checked) false ⟨#[], #[.slice none 0 0], []⟩ 8 (by kernel_rfl) (by kernel_rfl) (by kernel_rfl) (by kernel_rfl)) ?_
  intro W base args ds gs before hval0 hW hcnd _
  have hval : ∀ (j : Nat) t v, Try.f3.params[j]? = some t → args[j]? = some v → Value.okWide Try.prog W .any base t v := hval0
  have hW' := hW
  obtain ⟨p, q, hA0, hV, rfl, hfz, hnd⟩ := hW
  have hA : DataW.TrodAll enc Try.prog W 0 (fun _ => true) true Try.f3.params.toList args.toList ds p := hA0
  rw [Try.params3] at hA hval
  obtain ⟨v0, vs0, d0, ds0, p0, q0, hargs, rfl, rfl, h0, r0⟩ := trodAll_cons hA
  obtain ⟨rfl, rfl, rfl⟩ := trodAll_nil r0
  obtain rfl : args = #[v0] := by cases args; simp_all
  obtain ⟨rfl, rfl⟩ := trodVars_none hV
  have k0 := h0
  have lt0 : ∀ x ∈ p0, x.block < W.heap.size := by obtain ⟨m, hm⟩ := k0; exact DataW.trod_lt m _ _ _ hm
  obtain ⟨A0, n0, c0, l0, rfl, w0⟩ := open_code (hval 0 22 v0 rfl rfl) h0
  clear hA0 hval0
  refine (walk A0 n0 c0 l0 W w0).mono fun e W' ⟨he, bel⟩ => ?_
  subst he
  exact ⟨_, rfl, _, _, _, [], _, [], hW', trodAll_mk1 (shut_bool Try.underlying4 _), (trodAll_cons_mk (Below.trod laidOut (by kernel_rfl) (of_decide_eq_true (by kernel_rfl)) k0 bel lt0) trodAll_mk0), rfl, bel.frame _, fun h => by cases h⟩

theorem over : Rows.fnRenumberRow.holds Try.pinned (OpenSpec.ofChange Rows.fnRenumberSpec) :=
  OpenClaim.holds_of_wide 3 Try.f3 rfl rfl rfl rfl rfl rfl rfl ⟨rfl, rfl, rfl, rfl, rfl⟩ rfl rfl rfl rfl rfl (by kernel_rfl) Try.func3 (by kernel_rfl)
    (of_decide_eq_true (by kernel_rfl)) (by unfold Func.isWrapper; first | (rw [if_pos (by decide +kernel)]; kernel_rfl) | (rw [if_neg (by decide +kernel)]; exact ⟨rfl, rfl⟩))
    (fun os started H enc _ => lifted os started H enc)

theorem proved : Rows.FnRenumberSaid := over
end Go.Proofs.Ytcbhfaijlmckbaa.fnRenumber
