/-
For every code the law of classes of ranks returns true: the program's FlagOf answers as its model, its names of one bit are the members, its EnumOf is Renumber of the enumeration, and it has no composed names.
Conditions: none.
-/
import Derived.Test.YteaiaglangmhbaaDoorBaseG
import Derived.Test.YteaiaglangmhbaaDoorOpenC
import Derived.Test.YteaiaglangmhbaaDoorLEnu
import Derived.Test.YteaiaglangmhbaaDoorAlgJ
import Derived.Test.YteaiaglangmhbaaDoorBaseD
import Derived.Test.YteaiaglangmhbaaDoorEnuS
import Derived.Test.YteaiaglangmhbaaDoorEnuI
import Derived.Test.YteaiaglangmhbaaDoorConvT
import Derived.Test.YteaiaglangmhbaaDoorConvJ
import Derived.Test.YteaiaglangmhbaaDoorLFlag
import Derived.Test.YteaiaglangmhbaaDoorLEq
import Derived.Test.YteaiaglangmhbaaDoorDoor
namespace Go.Proofs.YteaiaglangmhbaaDoor.fnFlagOf
open Go.ChangeShapes Go.WideShapes Go.ChangeAt Go.RowKit
open Go.ChangeMaps (open_string shut_string)
set_option linter.unusedVariables false
set_option linter.unusedSimpArgs false
set_option maxRecDepth 100000

set_option maxHeartbeats 16000000 in
theorem walk (A : Option Addr) (n c : Nat) (zs : List Int) (w : World) (h : SB w w.heap.size A n c zs) (hT : TabAt w) :
    Calls Tryd.prog 5 #[.slice A n c] w fun e w' => e = .returned (.bool true) ∧ Below w.heap.size w w' := by
  have hm := h.max
  have hcap := h.cap
  unfold maxLen at hm
  have HS0 := Lib.hid h
  have HTb : Hid (Tb w w.heap.size) := Lib.hid ⟨hT, hT.size⟩
  clear h hT
  by_cases hbig : 1048576 < (n : Int)
  · go_enter Tryd.func5, Tryd.ntmps5
    go_wp2
    go_ret
    exact ⟨rfl, Below.refl _ _⟩
  go_enter Tryd.func5, Tryd.ntmps5
  go_wp2_with fail
  refine (drawFlagOf_any A n c zs _ HS0.out).mono ?_
  rintro e w1 ⟨Aa, ca, dsa, rfl, hn, hsma, hsa, hb⟩
  have HB_1 := Lib.hid hb
  have Tb_1 := Lib.hid ((HTb.out.below hb).call hb.size)
  clear HTb
  have Sa_1 := Lib.hid hsa
  have HSMa := Lib.hid hsma
  have HOKa : Hid (∀ d ∈ dsa, d.ok) := Lib.hid (fun d hd => small_ok (hsma d hd))
  clear hb hsa hsma
  obtain ⟨w2, hw⟩ : ∃ W : World, W = (w1.alloc (.cells #[.slice Aa dsa.length ca] 28)) := ⟨_, rfl⟩
  have hb : Below w1.heap.size w1 w2 := by rw [hw]; exact ((Below.refl _ _).alloc (by first | exact Nat.le_refl _ | (simp; done) | (simp; omega)) _)
  have Tb_2 := Lib.hid ((Tb_1.out.below hb).call hb.size)
  have Sa_2 := Lib.hid ((Sa_1.out.below hb).call hb.size)
  have HB_2 : Hid (Below w.heap.size w w2) := Lib.hid (HB_1.out.trans (hb.mono HB_1.out.size))
  have ba_2 : w2.cell? ⟨w1.heap.size, 0, none⟩ = some (.slice Aa dsa.length ca) := by rw [hw]; simp [go_sem]
  have lf_ba : (w1.alloc (.cells #[.slice Aa dsa.length ca] 28)).cell? ⟨w1.heap.size, 0, none⟩ = some (.slice Aa dsa.length ca) := by rw [← hw]; exact ba_2
  have HW2 : Hid ((w1.alloc (.cells #[.slice Aa dsa.length ca] 28)) = w2) := Lib.hid hw.symm
  clear hb hw Tb_1 Sa_1 HB_1
  have OKM0 : ∀ d ∈ mBits dsa, d.ok := mBits_ok HOKa.out
  have hml : (mBits dsa).length ≤ 12 := mBits_len _
  have HIM : Hid (∀ (A : Option Addr) (n c : Nat) (w : World), SD w w.heap.size A n c dsa → Calls Tryd.prog 24 #[.agg #[.slice A n c]] w (FlagE (mBits dsa) 0 w)) := Lib.hid fun A n c w h => implFlagOf_any dsa A n c w h
  have HSP : Hid (∀ (A : Option Addr) (n c : Nat) (w : World), SD w w.heap.size A n c dsa → Calls Tryd.prog 26 #[.agg #[.slice A n c]] w (FlagE (mBits dsa) 0 w)) := Lib.hid fun A n c w h => specFlagOf_any dsa A n c w h
  unfold FlagE at HIM HSP
  have HFIT : Hid (vEnum dsa = true → FlgL dsa (mBits dsa)) := Lib.hid (fun h => flag_law h)
  generalize mBits dsa = fs at *
  have OKM := Lib.hid OKM0
  clear OKM0
  go_wp2_with fail
  rw [HW2.out]
  clear lf_ba
  refine (HIM.out _ _ _ _ Sa_2.out).mono ?_
  rintro e w3 ⟨Ag, cg, rfl, ho, hb⟩
  have ba_3 := keep1 hb ba_2
  have Tb_3 := Lib.hid ((Tb_2.out.below hb).call hb.size)
  have Sa_3 := Lib.hid ((Sa_2.out.below hb).call hb.size)
  have HB_3 : Hid (Below w.heap.size w w3) := Lib.hid (HB_2.out.trans (hb.mono HB_2.out.size))
  have Sg_3 := Lib.hid (sd_of_own ho OKM.out)
  clear hb ho ba_2 Tb_2 Sa_2 HB_2
  obtain ⟨w4, hw⟩ : ∃ W : World, W = (w3.alloc (.cells #[.slice Ag fs.length cg, .int .i64 0] 31)) := ⟨_, rfl⟩
  have hb : Below w3.heap.size w3 w4 := by rw [hw]; exact ((Below.refl _ _).alloc (by first | exact Nat.le_refl _ | (simp; done) | (simp; omega)) _)
  have ba_4 := keep1 hb ba_3
  have Tb_4 := Lib.hid ((Tb_3.out.below hb).call hb.size)
  have Sa_4 := Lib.hid ((Sa_3.out.below hb).call hb.size)
  have Sg_4 := Lib.hid ((Sg_3.out.below hb).call hb.size)
  have HB_4 : Hid (Below w.heap.size w w4) := Lib.hid (HB_3.out.trans (hb.mono HB_3.out.size))
  have bg_4 : w4.cell? ⟨w3.heap.size, 0, none⟩ = some (.slice Ag fs.length cg) := by rw [hw]; simp [go_sem]
  have vg_4 : w4.cell? ⟨w3.heap.size, 1, none⟩ = some (.int .i64 0) := by rw [hw]; simp [go_sem]
  have lf_ba : (w3.alloc (.cells #[.slice Ag fs.length cg, .int .i64 0] 31)).cell? ⟨w1.heap.size, 0, none⟩ = some (.slice Aa dsa.length ca) := by rw [← hw]; exact ba_4
  have lf_bg : (w3.alloc (.cells #[.slice Ag fs.length cg, .int .i64 0] 31)).cell? ⟨w3.heap.size, 0, none⟩ = some (.slice Ag fs.length cg) := by rw [← hw]; exact bg_4
  have lf_vg : (w3.alloc (.cells #[.slice Ag fs.length cg, .int .i64 0] 31)).cell? ⟨w3.heap.size, 1, none⟩ = some (.int .i64 0) := by rw [← hw]; exact vg_4
  have HW4 : Hid ((w3.alloc (.cells #[.slice Ag fs.length cg, .int .i64 0] 31)) = w4) := Lib.hid hw.symm
  clear hb hw ba_3 Tb_3 Sa_3 Sg_3 HB_3
  cases hv : vEnum dsa
  · skip
    have HV := Lib.hid hv
    clear hv HFIT
    clear Tb_4
    go_wp2_with fail
    rw [HW4.out]
    clear lf_ba lf_bg lf_vg
    go_region_held3 (fun w' => w'.cell? ⟨w3.heap.size, 0, none⟩ = some (.slice Ag fs.length cg) ∧ w'.cell? ⟨w3.heap.size, 1, none⟩ = some (.int .i64 0) ∧ w'.cell? ⟨w1.heap.size, 0, none⟩ = some (.slice Aa dsa.length ca))
      (first | go_keep | exact ⟨bg_4, vg_4, ba_4⟩ | exact ⟨bg_5, vg_5, ba_5⟩ | exact ⟨bg_6, vg_6, ba_6⟩ | exact ⟨bg_7, vg_7, ba_7⟩)
      (first
        | (go_at_call 26; refine (HSP.out _ _ _ _ (Sa_4.out.drewN 1)).mono ?_; rintro e w5 ⟨Aw, cw, rfl, ho, hb⟩; replace hb : Below w4.heap.size w4 w5 := (by first | exact hb | exact undrew hb); have ba_5 := keep1 hb ba_4; have bg_5 := keep1 hb bg_4; have vg_5 := keep1 hb vg_4; have Sa_5 := Lib.hid ((Sa_4.out.below hb).call hb.size); have Sg_5 := Lib.hid ((Sg_4.out.below hb).call hb.size); have HB_5 : Hid (Below w.heap.size w w5) := Lib.hid (HB_4.out.trans (hb.mono HB_4.out.size)); have Sw_5 := Lib.hid (sd_of_own ho OKM.out); clear ho; clear hb)
        | (go_at_call 25; refine (equalFlag_any fs 0 _ _ _ _ _ _ _ Sg_5.out Sw_5.out).mono ?_; rintro e w6 ⟨rfl, hb⟩; have ba_6 := keep1 hb ba_5; have bg_6 := keep1 hb bg_5; have vg_6 := keep1 hb vg_5; have Sa_6 := Lib.hid ((Sa_5.out.below hb).call hb.size); have Sg_6 := Lib.hid ((Sg_5.out.below hb).call hb.size); have Sw_6 := Lib.hid ((Sw_5.out.below hb).call hb.size); have HB_6 : Hid (Below w.heap.size w w6) := Lib.hid (HB_5.out.trans (hb.mono HB_5.out.size)); clear hb)
        | (go_at_call 21; refine (implVE_v dsa _ _ _ _ Sa_6.out HV.out).mono ?_; rintro e w7 ⟨rfl, hb⟩; have ba_7 := keep1 hb ba_6; have bg_7 := keep1 hb bg_6; have vg_7 := keep1 hb vg_6; have Sa_7 := Lib.hid ((Sa_6.out.below hb).call hb.size); have Sg_7 := Lib.hid ((Sg_6.out.below hb).call hb.size); have Sw_7 := Lib.hid ((Sw_6.out.below hb).call hb.size); have HB_7 : Hid (Below w.heap.size w w7) := Lib.hid (HB_6.out.trans (hb.mono HB_6.out.size)); clear hb))
    go_wp2_with fail
    go_region_held3 (fun w' => w'.cell? ⟨w3.heap.size, 0, none⟩ = some (.slice Ag fs.length cg) ∧ w'.cell? ⟨w3.heap.size, 1, none⟩ = some (.int .i64 0) ∧ w'.cell? ⟨w1.heap.size, 0, none⟩ = some (.slice Aa dsa.length ca))
      (first | go_keep | exact ⟨bg_7, vg_7, ba_7⟩ | exact ⟨bg_8, vg_8, ba_8⟩ | exact ⟨bg_9, vg_9, ba_9⟩)
      (first
        | (go_at_call 26; refine (HSP.out _ _ _ _ (Sa_7.out.drewN 1)).mono ?_; rintro e w8 ⟨Av, cv, rfl, ho, hb⟩; replace hb : Below w7.heap.size w7 w8 := (by first | exact hb | exact undrew hb); have ba_8 := keep1 hb ba_7; have bg_8 := keep1 hb bg_7; have vg_8 := keep1 hb vg_7; have Sa_8 := Lib.hid ((Sa_7.out.below hb).call hb.size); have Sg_8 := Lib.hid ((Sg_7.out.below hb).call hb.size); have Sw_8 := Lib.hid ((Sw_7.out.below hb).call hb.size); have HB_8 : Hid (Below w.heap.size w w8) := Lib.hid (HB_7.out.trans (hb.mono HB_7.out.size)); have Sv_8 := Lib.hid (sd_of_own ho OKM.out); clear ho; clear hb)
        | (go_at_call 25; refine (equalFlag_any fs 0 _ _ _ _ _ _ _ Sg_8.out Sv_8.out).mono ?_; rintro e w9 ⟨rfl, hb⟩; have ba_9 := keep1 hb ba_8; have bg_9 := keep1 hb bg_8; have vg_9 := keep1 hb vg_8; have Sa_9 := Lib.hid ((Sa_8.out.below hb).call hb.size); have Sg_9 := Lib.hid ((Sg_8.out.below hb).call hb.size); have Sw_9 := Lib.hid ((Sw_8.out.below hb).call hb.size); have Sv_9 := Lib.hid ((Sv_8.out.below hb).call hb.size); have HB_9 : Hid (Below w.heap.size w w9) := Lib.hid (HB_8.out.trans (hb.mono HB_8.out.size)); clear hb))
    go_wp2
    go_ret
    exact ⟨by first | rfl | kernel_rfl | (go_simp; done), HB_9.out⟩
  have HV := Lib.hid hv
  have HF := Lib.hid (HFIT.out hv)
  clear hv HFIT
  go_wp2_with fail
  rw [HW4.out]
  clear lf_ba lf_bg lf_vg
  go_region_held3 (fun w' => w'.cell? ⟨w3.heap.size, 0, none⟩ = some (.slice Ag fs.length cg) ∧ w'.cell? ⟨w3.heap.size, 1, none⟩ = some (.int .i64 0) ∧ w'.cell? ⟨w1.heap.size, 0, none⟩ = some (.slice Aa dsa.length ca))
    (first | go_keep | exact ⟨bg_4, vg_4, ba_4⟩ | exact ⟨bg_5, vg_5, ba_5⟩ | exact ⟨bg_6, vg_6, ba_6⟩ | exact ⟨bg_7, vg_7, ba_7⟩)
    (first
      | (go_at_call 26; refine (HSP.out _ _ _ _ (Sa_4.out.drewN 1)).mono ?_; rintro e w5 ⟨Aw, cw, rfl, ho, hb⟩; replace hb : Below w4.heap.size w4 w5 := (by first | exact hb | exact undrew hb); have ba_5 := keep1 hb ba_4; have bg_5 := keep1 hb bg_4; have vg_5 := keep1 hb vg_4; have Tb_5 := Lib.hid ((Tb_4.out.below hb).call hb.size); have Sa_5 := Lib.hid ((Sa_4.out.below hb).call hb.size); have Sg_5 := Lib.hid ((Sg_4.out.below hb).call hb.size); have HB_5 : Hid (Below w.heap.size w w5) := Lib.hid (HB_4.out.trans (hb.mono HB_4.out.size)); have Sw_5 := Lib.hid (sd_of_own ho OKM.out); clear ho; clear hb)
      | (go_at_call 25; refine (equalFlag_any fs 0 _ _ _ _ _ _ _ Sg_5.out Sw_5.out).mono ?_; rintro e w6 ⟨rfl, hb⟩; have ba_6 := keep1 hb ba_5; have bg_6 := keep1 hb bg_5; have vg_6 := keep1 hb vg_5; have Tb_6 := Lib.hid ((Tb_5.out.below hb).call hb.size); have Sa_6 := Lib.hid ((Sa_5.out.below hb).call hb.size); have Sg_6 := Lib.hid ((Sg_5.out.below hb).call hb.size); have Sw_6 := Lib.hid ((Sw_5.out.below hb).call hb.size); have HB_6 : Hid (Below w.heap.size w w6) := Lib.hid (HB_5.out.trans (hb.mono HB_5.out.size)); clear hb)
      | (go_at_call 21; refine (implVE_v dsa _ _ _ _ Sa_6.out HV.out).mono ?_; rintro e w7 ⟨rfl, hb⟩; have ba_7 := keep1 hb ba_6; have bg_7 := keep1 hb bg_6; have vg_7 := keep1 hb vg_6; have Tb_7 := Lib.hid ((Tb_6.out.below hb).call hb.size); have Sa_7 := Lib.hid ((Sa_6.out.below hb).call hb.size); have Sg_7 := Lib.hid ((Sg_6.out.below hb).call hb.size); have Sw_7 := Lib.hid ((Sw_6.out.below hb).call hb.size); have HB_7 : Hid (Below w.heap.size w w7) := Lib.hid (HB_6.out.trans (hb.mono HB_6.out.size)); clear hb))
  have HSGE := Lib.hid HF.out.sg
  have HENE := Lib.hid HF.out.en
  have HCOE := Lib.hid HF.out.co
  have OKS : Hid (∀ s ∈ mMembers dsa, s.size ≤ maxLen) := Lib.hid (mMembers_ok HOKa.out)
  have hsl : (mMembers dsa).length ≤ 12 := mMembers_len _
  have OKR : Hid (∀ d ∈ mRenum dsa, d.ok) := Lib.hid (byR_ok HOKa.out fun r h => idR_i h)
  have hrl : (mRenum dsa).length ≤ 12 := byR_len _ _
  have HSG : Hid (∀ (A : Option Addr) (n c : Nat) (w : World), SD w w.heap.size A n c fs → n ≤ 1048576 → Calls Tryd.prog 18 #[.agg #[.slice A n c, .int .i64 0]] w (StrsP (mMembers dsa) w)) := Lib.hid (by rw [← HSGE.out]; exact fun A n c w h hn => implSgOf_any fs 0 A n c w h hn)
  have HMM : Hid (∀ (A : Option Addr) (c n : Nat) (w : World), SD w w.heap.size A n c dsa → Calls Tryd.prog 19 #[.agg #[.slice A n c]] w (StrsP (mMembers dsa) w)) := Lib.hid fun A c n w h => implMembersOf_any dsa A c n w h
  have HEN : Hid (∀ (A : Option Addr) (n c : Nat) (w : World), SD w w.heap.size A n c fs → n ≤ 1048576 → Tb w w.heap.size → Calls Tryd.prog 9 #[.agg #[.slice A n c, .int .i64 0]] w (EnumE (mRenum dsa) w)) := Lib.hid (by rw [← HENE.out]; exact fun A n c w h hn ht => implEnum_any fs 0 A n c w h hn ht.at_ ht.lt)
  have HRN : Hid (∀ (A : Option Addr) (n c : Nat) (w : World), SD w w.heap.size A n c dsa → Calls Tryd.prog 27 #[.agg #[.slice A n c]] w (EnumE (mRenum dsa) w)) := Lib.hid fun A n c w h => implRenum_any dsa A n c w h
  have HCC : Hid (∀ (A : Option Addr) (n c : Nat) (w : World), SD w w.heap.size A n c fs → n ≤ 1048576 → Calls Tryd.prog 28 #[.agg #[.slice A n c, .int .i64 0]] w fun e w' => ∃ A' c', e = .returned (.slice A' 0 c') ∧ Below w.heap.size w w') := Lib.hid fun A n c w h hn => (implCompOf_any fs 0 A n c w h hn).mono fun e w' hh => by
    obtain ⟨A', c', h1, _, h3⟩ := hh
    rw [HCOE.out] at h1
    exact ⟨A', c', h1, h3⟩
  clear HF HSGE HENE HCOE
  unfold StrsP at HSG HMM
  unfold EnumE at HEN HRN
  generalize mMembers dsa = ns at *
  generalize mRenum dsa = rs at *
  go_wp2_with fail
  go_region_held3 (fun w' => w'.cell? ⟨w3.heap.size, 0, none⟩ = some (.slice Ag fs.length cg) ∧ w'.cell? ⟨w3.heap.size, 1, none⟩ = some (.int .i64 0) ∧ w'.cell? ⟨w1.heap.size, 0, none⟩ = some (.slice Aa dsa.length ca))
    (first | go_keep | exact ⟨bg_7, vg_7, ba_7⟩ | exact ⟨bg_8, vg_8, ba_8⟩ | exact ⟨bg_9, vg_9, ba_9⟩ | exact ⟨bg_10, vg_10, ba_10⟩ | exact ⟨bg_11, vg_11, ba_11⟩ | exact ⟨bg_12, vg_12, ba_12⟩ | exact ⟨bg_13, vg_13, ba_13⟩ | exact ⟨bg_14, vg_14, ba_14⟩)
    (first
      | (go_at_call 18; refine (HSG.out _ _ _ _ (Sg_7.out.drewN 1) (by omega)).mono ?_; rintro e w8 ⟨As, cs, rfl, ho, hb⟩; replace hb : Below w7.heap.size w7 w8 := (by first | exact hb | exact undrew hb); have ba_8 := keep1 hb ba_7; have bg_8 := keep1 hb bg_7; have vg_8 := keep1 hb vg_7; have Tb_8 := Lib.hid ((Tb_7.out.below hb).call hb.size); have Sa_8 := Lib.hid ((Sa_7.out.below hb).call hb.size); have Sg_8 := Lib.hid ((Sg_7.out.below hb).call hb.size); have HB_8 : Hid (Below w.heap.size w w8) := Lib.hid (HB_7.out.trans (hb.mono HB_7.out.size)); have Xs_8 := Lib.hid (ss_of_own ho OKS.out); clear ho; clear hb)
      | (go_at_call 19; refine (HMM.out _ _ _ _ Sa_8.out).mono ?_; rintro e w9 ⟨An, cn, rfl, ho, hb⟩; have ba_9 := keep1 hb ba_8; have bg_9 := keep1 hb bg_8; have vg_9 := keep1 hb vg_8; have Tb_9 := Lib.hid ((Tb_8.out.below hb).call hb.size); have Sa_9 := Lib.hid ((Sa_8.out.below hb).call hb.size); have Sg_9 := Lib.hid ((Sg_8.out.below hb).call hb.size); have Xs_9 := Lib.hid ((Xs_8.out.below hb).call hb.size); have HB_9 : Hid (Below w.heap.size w w9) := Lib.hid (HB_8.out.trans (hb.mono HB_8.out.size)); have Xn_9 := Lib.hid (ss_of_own ho OKS.out); clear ho; clear hb)
      | (go_at_call 22; refine (equalTexts_any ns _ _ _ _ _ _ _ Xs_9.out Xn_9.out).mono ?_; rintro e w10 ⟨rfl, hb⟩; have ba_10 := keep1 hb ba_9; have bg_10 := keep1 hb bg_9; have vg_10 := keep1 hb vg_9; have Tb_10 := Lib.hid ((Tb_9.out.below hb).call hb.size); have Sa_10 := Lib.hid ((Sa_9.out.below hb).call hb.size); have Sg_10 := Lib.hid ((Sg_9.out.below hb).call hb.size); have Xs_10 := Lib.hid ((Xs_9.out.below hb).call hb.size); have Xn_10 := Lib.hid ((Xn_9.out.below hb).call hb.size); have HB_10 : Hid (Below w.heap.size w w10) := Lib.hid (HB_9.out.trans (hb.mono HB_9.out.size)); clear hb)
      | (go_at_call 9; refine (HEN.out _ _ _ _ Sg_10.out (by omega) Tb_10.out).mono ?_; rintro e w11 ⟨Ae, ce, rfl, ho, hb⟩; have ba_11 := keep1 hb ba_10; have bg_11 := keep1 hb bg_10; have vg_11 := keep1 hb vg_10; have Tb_11 := Lib.hid ((Tb_10.out.below hb).call hb.size); have Sa_11 := Lib.hid ((Sa_10.out.below hb).call hb.size); have Sg_11 := Lib.hid ((Sg_10.out.below hb).call hb.size); have Xs_11 := Lib.hid ((Xs_10.out.below hb).call hb.size); have Xn_11 := Lib.hid ((Xn_10.out.below hb).call hb.size); have HB_11 : Hid (Below w.heap.size w w11) := Lib.hid (HB_10.out.trans (hb.mono HB_10.out.size)); have Se_11 := Lib.hid (sd_of_own ho OKR.out); clear ho; clear hb)
      | (go_at_call 27; refine (HRN.out _ _ _ _ Sa_11.out).mono ?_; rintro e w12 ⟨Ar, cr, rfl, ho, hb⟩; have ba_12 := keep1 hb ba_11; have bg_12 := keep1 hb bg_11; have vg_12 := keep1 hb vg_11; have Tb_12 := Lib.hid ((Tb_11.out.below hb).call hb.size); have Sa_12 := Lib.hid ((Sa_11.out.below hb).call hb.size); have Sg_12 := Lib.hid ((Sg_11.out.below hb).call hb.size); have Xs_12 := Lib.hid ((Xs_11.out.below hb).call hb.size); have Xn_12 := Lib.hid ((Xn_11.out.below hb).call hb.size); have Se_12 := Lib.hid ((Se_11.out.below hb).call hb.size); have HB_12 : Hid (Below w.heap.size w w12) := Lib.hid (HB_11.out.trans (hb.mono HB_11.out.size)); have Sr_12 := Lib.hid (sd_of_own ho OKR.out); clear ho; clear hb)
      | (go_at_call 16; refine (equalEnum_any rs _ _ _ _ _ _ _ Se_12.out Sr_12.out).mono ?_; rintro e w13 ⟨rfl, hb⟩; have ba_13 := keep1 hb ba_12; have bg_13 := keep1 hb bg_12; have vg_13 := keep1 hb vg_12; have Tb_13 := Lib.hid ((Tb_12.out.below hb).call hb.size); have Sa_13 := Lib.hid ((Sa_12.out.below hb).call hb.size); have Sg_13 := Lib.hid ((Sg_12.out.below hb).call hb.size); have Xs_13 := Lib.hid ((Xs_12.out.below hb).call hb.size); have Xn_13 := Lib.hid ((Xn_12.out.below hb).call hb.size); have Se_13 := Lib.hid ((Se_12.out.below hb).call hb.size); have Sr_13 := Lib.hid ((Sr_12.out.below hb).call hb.size); have HB_13 : Hid (Below w.heap.size w w13) := Lib.hid (HB_12.out.trans (hb.mono HB_12.out.size)); clear hb)
      | (go_at_call 28; refine (HCC.out _ _ _ _ Sg_13.out (by omega)).mono ?_; rintro e w14 ⟨Ax, cx, rfl, hb⟩; have ba_14 := keep1 hb ba_13; have bg_14 := keep1 hb bg_13; have vg_14 := keep1 hb vg_13; have Tb_14 := Lib.hid ((Tb_13.out.below hb).call hb.size); have Sa_14 := Lib.hid ((Sa_13.out.below hb).call hb.size); have Sg_14 := Lib.hid ((Sg_13.out.below hb).call hb.size); have Xs_14 := Lib.hid ((Xs_13.out.below hb).call hb.size); have Xn_14 := Lib.hid ((Xn_13.out.below hb).call hb.size); have Se_14 := Lib.hid ((Se_13.out.below hb).call hb.size); have Sr_14 := Lib.hid ((Sr_13.out.below hb).call hb.size); have HB_14 : Hid (Below w.heap.size w w14) := Lib.hid (HB_13.out.trans (hb.mono HB_13.out.size)); clear hb))
  go_wp2
  go_ret
  exact ⟨by first | rfl | kernel_rfl | (go_simp; done), HB_14.out⟩

theorem lifted (os : Os) (started : os.Started) (H : Type) (enc : TypeId × Value → H) :
    ReturnsInHanded {} Tryd.checked os 5 .any (fun w args => (Rows.fnFlagOfSpec.pre enc Tryd.prog Tryd.f5 [] false w args ∧ laidMetH Tryd.prog laidL w) ∧ sizedMet enc Tryd.prog Tryd.f5 (OpenSpec.ofChange Rows.fnFlagOfSpec) false w args) (Rows.fnFlagOfSpec.post enc Tryd.prog Tryd.f5 false true false false) := by
  refine returnsInHanded_of_change_and (C := Tryd.checked) (X := fun w _ => laidMetH Tryd.prog laidL w) (fun _ _ _ hh h => h.of_heap hh) own started (by kernel_rfl) Tryd.func5
    (ChangeSpec.witness_shaped (enc := enc) (C := Tryd.checked) (os := os) (X := fun w _ => laidMetH Tryd.prog laidL w) false (World.doorLaid Tryd.prog 400 os) #[.slice none 0 0] 8 rfl (World.shaped_of_RefB (by kernel_rfl) (by kernel_rfl)) (by kernel_rfl) (by kernel_rfl) (by kernel_rfl) (door_met os _)) ?_
  intro W base args ds gs before hval0 hW hcnd _ hL _
  have hval : ∀ (j : Nat) t v, Tryd.f5.params[j]? = some t → args[j]? = some v → Value.okWide Tryd.prog W .any base t v := hval0
  have hW' := hW
  obtain ⟨p, q, hA0, hV, rfl, hfz, hnd⟩ := hW
  have hA : DataW.TrodAll enc Tryd.prog W 0 (fun _ => true) true Tryd.f5.params.toList args.toList ds p := hA0
  rw [Tryd.params5] at hA hval
  obtain ⟨v0, vs0, d0, ds0, p0, q0, hargs, rfl, rfl, h0, r0⟩ := trodAll_cons hA
  obtain ⟨rfl, rfl, rfl⟩ := trodAll_nil r0
  obtain rfl : args = #[v0] := by cases args; simp_all
  obtain ⟨rfl, rfl⟩ := trodVars_none hV
  have k0 := h0
  have lt0 : ∀ x ∈ p0, x.block < W.heap.size := by obtain ⟨m, hm⟩ := k0; exact DataW.trod_lt m _ _ _ hm
  obtain ⟨A0, n0, c0, l0, rfl, w0⟩ := open_code (hval 0 38 v0 rfl rfl) h0
  clear hA0 hval0
  refine (walk A0 n0 c0 l0 W w0 (tab_of_laid hL)).mono fun e W' ⟨he, bel⟩ => ?_
  subst he
  exact ⟨_, rfl, _, _, _, [], _, [], hW', trodAll_mk1 (shut_bool Tryd.underlying4 _), (trodAll_cons_mk (Below.trod laidOut (by kernel_rfl) (of_decide_eq_true (by kernel_rfl)) k0 bel lt0) trodAll_mk0), rfl, bel.frame _, fun h => by cases h⟩

theorem over : Rows.fnFlagOfRow.holds Tryd.pinned (OpenSpec.ofChange Rows.fnFlagOfSpec) :=
  OpenClaim.holds_of_wide 5 Tryd.f5 rfl rfl rfl rfl rfl rfl rfl ⟨rfl, rfl, rfl, rfl, rfl⟩ rfl rfl rfl rfl rfl (by kernel_rfl) Tryd.func5 (by kernel_rfl)
    (of_decide_eq_true (by kernel_rfl)) (by unfold Func.isWrapper; first | (rw [if_pos (by decide +kernel)]; kernel_rfl) | (rw [if_neg (by decide +kernel)]; exact ⟨rfl, rfl⟩))
    (fun os started H enc _ => lifted os started H enc)

theorem proved : Rows.FnFlagOfCardSaid :=
  Claim7.holds_tied_plain_at .later [] laidK true _ false
    over (fun _ h => by cases h) (by kernel_rfl) (fun _ h => by cases h) fnFlagOf_row_tie rfl ⟨rfl, rfl⟩ (by kernel_rfl) rfl
    (fun f fn hf hfn => by
      obtain rfl : f = 5 := (Option.some.inj ((show Tryd.prog.funcNamed "loop.example/namedflags/laws.FnFlagOf" = some 5 by kernel_rfl).symm.trans hf)).symm
      obtain rfl : fn = Tryd.f5 := (Option.some.inj (Tryd.func5.symm.trans hfn)).symm
      exact ⟨by kernel_rfl, fun j t ht => by
        have hm := Array.mem_of_getElem? ht
        have hall : (List.all (Array.toList Tryd.f5.params) fun u => !Tryd.prog.wantsStandIn u) = true := by kernel_rfl
        exact (show Tryd.prog.wantsStandIn t = false by simpa using List.all_eq_true.1 hall t (by simpa using hm))⟩)
    (by kernel_rfl)
end Go.Proofs.YteaiaglangmhbaaDoor.fnFlagOf
