/-
For every code the law of texts that are made whole returns true: the program's ParseFlag answers as its model, ParseFlag of FlagText of it is the same, and no enumeration is read of the text.
Conditions: none.
-/
import Derived.Test.YtpfdghbjagdhfaaDoorBaseL
import Derived.Test.YtpfdghbjagdhfaaDoorOpenC
import Derived.Test.YtpfdghbjagdhfaaDoorBaseK
import Derived.Test.YtpfdghbjagdhfaaDoorBaseM
import Derived.Test.YtpfdghbjagdhfaaDoorBaseJ
import Derived.Test.YtpfdghbjagdhfaaDoorParD
namespace Go.Proofs.YtpfdghbjagdhfaaDoor.fnParseFlag
open Go.ChangeShapes Go.WideShapes Go.ChangeAt Go.RowKit
open Go.ChangeMaps (open_string shut_string)
set_option linter.unusedVariables false
set_option linter.unusedSimpArgs false
set_option maxRecDepth 100000

set_option maxHeartbeats 16000000 in
theorem walk (A : Option Addr) (n c : Nat) (zs : List Int) (w : World) (h : SB w w.heap.size A n c zs) (hT : TabAt w) :
    Calls Tryd.prog 11 #[.slice A n c] w fun e w' => e = .returned (.bool true) ∧ Below w.heap.size w w' := by
  have hm := h.max
  have hcap := h.cap
  unfold maxLen at hm
  have HS0 := Lib.hid h
  have HTb : Hid (Tb w w.heap.size) := Lib.hid hT
  clear h hT
  by_cases hbig : 1048576 < (n : Int)
  · go_enter Tryd.func11, Tryd.ntmps11
    go_wp2
    go_ret
    exact ⟨rfl, Below.refl _ _⟩
  go_enter Tryd.func11, Tryd.ntmps11
  go_wp2_with fail
  refine (drawParseFlag_any A n c zs _ HS0.out).mono ?_
  rintro e w1 ⟨t, rfl, ht, hb⟩
  have HB_1 := Lib.hid hb
  have Tb_1 := Lib.hid ((HTb.out.below hb).call hb.size)
  clear HTb
  clear hb
  have hdok := mPF_dok t
  have HIM : Hid (∀ (w : World), Tb w w.heap.size → Calls Tryd.prog 24 #[.string t] w (FlagR (mPF t) (bPF t) (okPF t) w)) := Lib.hid (fun w ht => implPF_v t w (by omega) ht)
  have HSP : Hid (∀ (w : World), Calls Tryd.prog 23 #[.string t] w (FlagR (mPF t) (bPF t) (okPF t) w)) := Lib.hid (fun w => specPF_v t w (by omega))
  unfold FlagR at HIM HSP
  have HFIT : Hid (okPF t = true → PFFit t (mPF t) (bPF t)) := Lib.hid pf_fit
  have hml := hdok.2
  have OKM := Lib.hid hdok.1
  clear hdok
  generalize mPF t = ms at *
  generalize bPF t = rb at *
  generalize okPF t = ok at *
  go_wp2_with fail
  refine (HIM.out _ Tb_1.out).mono ?_
  rintro e w2 ⟨Ag, cg, rfl, ho, hb⟩
  have Tb_2 := Lib.hid ((Tb_1.out.below hb).call hb.size)
  have HB_2 : Hid (Below w.heap.size w w2) := Lib.hid (HB_1.out.trans (hb.mono HB_1.out.size))
  have Sg_2 := Lib.hid (sd_of_own ho OKM.out)
  clear hb ho Tb_1 HB_1
  obtain ⟨w3, hw⟩ : ∃ W : World, W = (w2.alloc (.cells #[.slice Ag ms.length cg, .int .i64 rb] 32)) := ⟨_, rfl⟩
  have hb : Below w2.heap.size w2 w3 := by rw [hw]; exact ((Below.refl _ _).alloc (by first | exact Nat.le_refl _ | (simp; done) | (simp; omega)) _)
  have Tb_3 := Lib.hid ((Tb_2.out.below hb).call hb.size)
  have Sg_3 := Lib.hid ((Sg_2.out.below hb).call hb.size)
  have HB_3 : Hid (Below w.heap.size w w3) := Lib.hid (HB_2.out.trans (hb.mono HB_2.out.size))
  have bg_3 : w3.cell? ⟨w2.heap.size, 0, none⟩ = some (.slice Ag ms.length cg) := by rw [hw]; simp [go_sem]
  have vg_3 : w3.cell? ⟨w2.heap.size, 1, none⟩ = some (.int .i64 rb) := by rw [hw]; simp [go_sem]
  have lf_bg : (w2.alloc (.cells #[.slice Ag ms.length cg, .int .i64 rb] 32)).cell? ⟨w2.heap.size, 0, none⟩ = some (.slice Ag ms.length cg) := by rw [← hw]; exact bg_3
  have lf_vg : (w2.alloc (.cells #[.slice Ag ms.length cg, .int .i64 rb] 32)).cell? ⟨w2.heap.size, 1, none⟩ = some (.int .i64 rb) := by rw [← hw]; exact vg_3
  have HW3 : Hid ((w2.alloc (.cells #[.slice Ag ms.length cg, .int .i64 rb] 32)) = w3) := Lib.hid hw.symm
  clear hb hw Tb_2 Sg_2 HB_2
  go_wp2_with fail
  rw [HW3.out]
  clear lf_bg lf_vg
  refine (HSP.out _).mono ?_
  rintro e w4 ⟨Aw, cw, rfl, ho, hb⟩
  have bg_4 := keep1 hb bg_3
  have vg_4 := keep1 hb vg_3
  have Tb_4 := Lib.hid ((Tb_3.out.below hb).call hb.size)
  have Sg_4 := Lib.hid ((Sg_3.out.below hb).call hb.size)
  have HB_4 : Hid (Below w.heap.size w w4) := Lib.hid (HB_3.out.trans (hb.mono HB_3.out.size))
  have Sw_4 := Lib.hid (sd_of_own ho OKM.out)
  clear hb ho bg_3 vg_3 Tb_3 Sg_3 HB_3
  obtain ⟨w5, hw⟩ : ∃ W : World, W = (w4.alloc (.cells #[.slice Aw ms.length cw, .int .i64 rb] 32)) := ⟨_, rfl⟩
  have hb : Below w4.heap.size w4 w5 := by rw [hw]; exact ((Below.refl _ _).alloc (by first | exact Nat.le_refl _ | (simp; done) | (simp; omega)) _)
  have bg_5 := keep1 hb bg_4
  have vg_5 := keep1 hb vg_4
  have Tb_5 := Lib.hid ((Tb_4.out.below hb).call hb.size)
  have Sg_5 := Lib.hid ((Sg_4.out.below hb).call hb.size)
  have Sw_5 := Lib.hid ((Sw_4.out.below hb).call hb.size)
  have HB_5 : Hid (Below w.heap.size w w5) := Lib.hid (HB_4.out.trans (hb.mono HB_4.out.size))
  have bw_5 : w5.cell? ⟨w4.heap.size, 0, none⟩ = some (.slice Aw ms.length cw) := by rw [hw]; simp [go_sem]
  have vw_5 : w5.cell? ⟨w4.heap.size, 1, none⟩ = some (.int .i64 rb) := by rw [hw]; simp [go_sem]
  have lf_bg : (w4.alloc (.cells #[.slice Aw ms.length cw, .int .i64 rb] 32)).cell? ⟨w2.heap.size, 0, none⟩ = some (.slice Ag ms.length cg) := by rw [← hw]; exact bg_5
  have lf_vg : (w4.alloc (.cells #[.slice Aw ms.length cw, .int .i64 rb] 32)).cell? ⟨w2.heap.size, 1, none⟩ = some (.int .i64 rb) := by rw [← hw]; exact vg_5
  have lf_bw : (w4.alloc (.cells #[.slice Aw ms.length cw, .int .i64 rb] 32)).cell? ⟨w4.heap.size, 0, none⟩ = some (.slice Aw ms.length cw) := by rw [← hw]; exact bw_5
  have lf_vw : (w4.alloc (.cells #[.slice Aw ms.length cw, .int .i64 rb] 32)).cell? ⟨w4.heap.size, 1, none⟩ = some (.int .i64 rb) := by rw [← hw]; exact vw_5
  have HW5 : Hid ((w4.alloc (.cells #[.slice Aw ms.length cw, .int .i64 rb] 32)) = w5) := Lib.hid hw.symm
  clear hb hw bg_4 vg_4 Tb_4 Sg_4 Sw_4 HB_4
  go_wp2_with fail
  rw [HW5.out]
  clear lf_bg lf_vg lf_bw lf_vw
  refine (equalFlag_any ms rb _ _ _ _ _ _ _ Sg_5.out Sw_5.out).mono ?_
  rintro e w6 ⟨rfl, hb⟩
  have bg_6 := keep1 hb bg_5
  have vg_6 := keep1 hb vg_5
  have bw_6 := keep1 hb bw_5
  have vw_6 := keep1 hb vw_5
  have Tb_6 := Lib.hid ((Tb_5.out.below hb).call hb.size)
  have Sg_6 := Lib.hid ((Sg_5.out.below hb).call hb.size)
  have Sw_6 := Lib.hid ((Sw_5.out.below hb).call hb.size)
  have HB_6 : Hid (Below w.heap.size w w6) := Lib.hid (HB_5.out.trans (hb.mono HB_5.out.size))
  clear hb  bg_5 vg_5 bw_5 vw_5 Tb_5 Sg_5 Sw_5 HB_5
  cases ok
  · skip
    go_wp2_with fail
    refine (equalFlag_any ms rb _ _ _ _ _ _ _ Sg_6.out Sw_6.out).mono ?_
    rintro e w7 ⟨rfl, hb⟩
    have bg_7 := keep1 hb bg_6
    have vg_7 := keep1 hb vg_6
    have bw_7 := keep1 hb bw_6
    have vw_7 := keep1 hb vw_6
    have Tb_7 := Lib.hid ((Tb_6.out.below hb).call hb.size)
    have Sg_7 := Lib.hid ((Sg_6.out.below hb).call hb.size)
    have Sw_7 := Lib.hid ((Sw_6.out.below hb).call hb.size)
    have HB_7 : Hid (Below w.heap.size w w7) := Lib.hid (HB_6.out.trans (hb.mono HB_6.out.size))
    clear hb  bg_6 vg_6 bw_6 vw_6 Tb_6 Sg_6 Sw_6 HB_6
    go_wp2
    go_ret
    exact ⟨by first | rfl | kernel_rfl | (go_simp; done), HB_7.out⟩
  clear Sw_6
  clear bw_6
  clear vw_6
  have hfit := HFIT.out rfl
  have HV := Lib.hid hfit.ve
  have hnl := hfit.nl
  obtain ⟨s, hs⟩ : ∃ s, mFlagT ms rb = s := ⟨_, rfl⟩
  have HET : Hid (∀ (A : Option Addr) (n c : Nat) (w : World), SD w w.heap.size A n c ms → n ≤ 1048576 → Tb w w.heap.size → Calls Tryd.prog 33 #[.agg #[.slice A n c, .int .i64 rb]] w fun e w' => e = .returned (.string s) ∧ Below w.heap.size w w') := Lib.hid (fun A n c w h hn ht => by rw [← hs]; exact implFlagT_v ms rb A n c w h hn ht.p10 ht.lp)
  have hpa := pf_again hfit.ve
  have hsz := ft_size hfit.ve
  rw [hs] at hpa hsz
  have HPE : Hid (∀ (w : World), Tb w w.heap.size → Calls Tryd.prog 24 #[.string s] w (FlagR ms rb true w)) := Lib.hid (fun w ht => by have h := implPF_v s w (by omega) ht; rw [hpa.1, hpa.2.1, hpa.2.2] at h; exact h)
  unfold FlagR at HPE
  have HNF : Hid (okPE t = false) := Lib.hid hfit.noE
  have HPF : Hid (∀ (w : World), Tb w w.heap.size → Calls Tryd.prog 19 #[.string t] w (EnumR (mPE t) false w)) := Lib.hid (fun w ht => by have h := implPE_v t w (by omega) ht; rw [HNF.out] at h; exact h)
  unfold EnumR at HPF
  have hdo2 := mPE_dok t
  have OKF := Lib.hid hdo2.1
  have hfl := hdo2.2
  obtain ⟨q, hq⟩ : ∃ q : Nat, nls t = q := ⟨_, rfl⟩
  have HQ := Lib.hid hq
  have hw1 : IntKind.i64.wrap ((ms.length : Int) + 1) = (q : Int) := by rw [IntKind.wrap_i64]; omega
  have eq : ((q : Int) == (q : Int)) = true := beq_self_eq_true _
  clear hfit hs hpa hnl hq hdo2 HFIT HNF HIM HSP
  generalize mPE t = mf at *
  go_wp2_with fail
  refine (HET.out _ _ _ _ Sg_6.out (by omega) Tb_6.out).mono ?_
  rintro e w7 ⟨rfl, hb⟩
  have bg_7 := keep1 hb bg_6
  have vg_7 := keep1 hb vg_6
  have Tb_7 := Lib.hid ((Tb_6.out.below hb).call hb.size)
  have Sg_7 := Lib.hid ((Sg_6.out.below hb).call hb.size)
  have HB_7 : Hid (Below w.heap.size w w7) := Lib.hid (HB_6.out.trans (hb.mono HB_6.out.size))
  clear hb  bg_6 vg_6 Tb_6 Sg_6 HB_6
  go_wp2_with fail
  refine (HPE.out _ Tb_7.out).mono ?_
  rintro e w8 ⟨Ak, ck, rfl, ho, hb⟩
  have bg_8 := keep1 hb bg_7
  have vg_8 := keep1 hb vg_7
  have Tb_8 := Lib.hid ((Tb_7.out.below hb).call hb.size)
  have Sg_8 := Lib.hid ((Sg_7.out.below hb).call hb.size)
  have HB_8 : Hid (Below w.heap.size w w8) := Lib.hid (HB_7.out.trans (hb.mono HB_7.out.size))
  have Sk_8 := Lib.hid (sd_of_own ho OKM.out)
  clear hb ho bg_7 vg_7 Tb_7 Sg_7 HB_7
  obtain ⟨w9, hw⟩ : ∃ W : World, W = (w8.alloc (.cells #[.slice Ak ms.length ck, .int .i64 rb] 32)) := ⟨_, rfl⟩
  have hb : Below w8.heap.size w8 w9 := by rw [hw]; exact ((Below.refl _ _).alloc (by first | exact Nat.le_refl _ | (simp; done) | (simp; omega)) _)
  have bg_9 := keep1 hb bg_8
  have vg_9 := keep1 hb vg_8
  have Tb_9 := Lib.hid ((Tb_8.out.below hb).call hb.size)
  have Sg_9 := Lib.hid ((Sg_8.out.below hb).call hb.size)
  have Sk_9 := Lib.hid ((Sk_8.out.below hb).call hb.size)
  have HB_9 : Hid (Below w.heap.size w w9) := Lib.hid (HB_8.out.trans (hb.mono HB_8.out.size))
  have bk_9 : w9.cell? ⟨w8.heap.size, 0, none⟩ = some (.slice Ak ms.length ck) := by rw [hw]; simp [go_sem]
  have vk_9 : w9.cell? ⟨w8.heap.size, 1, none⟩ = some (.int .i64 rb) := by rw [hw]; simp [go_sem]
  have lf_bg : (w8.alloc (.cells #[.slice Ak ms.length ck, .int .i64 rb] 32)).cell? ⟨w2.heap.size, 0, none⟩ = some (.slice Ag ms.length cg) := by rw [← hw]; exact bg_9
  have lf_vg : (w8.alloc (.cells #[.slice Ak ms.length ck, .int .i64 rb] 32)).cell? ⟨w2.heap.size, 1, none⟩ = some (.int .i64 rb) := by rw [← hw]; exact vg_9
  have lf_bk : (w8.alloc (.cells #[.slice Ak ms.length ck, .int .i64 rb] 32)).cell? ⟨w8.heap.size, 0, none⟩ = some (.slice Ak ms.length ck) := by rw [← hw]; exact bk_9
  have lf_vk : (w8.alloc (.cells #[.slice Ak ms.length ck, .int .i64 rb] 32)).cell? ⟨w8.heap.size, 1, none⟩ = some (.int .i64 rb) := by rw [← hw]; exact vk_9
  have HW9 : Hid ((w8.alloc (.cells #[.slice Ak ms.length ck, .int .i64 rb] 32)) = w9) := Lib.hid hw.symm
  clear hb hw bg_8 vg_8 Tb_8 Sg_8 Sk_8 HB_8
  go_wp2_with fail
  rw [HW9.out]
  clear lf_bg lf_vg lf_bk lf_vk
  refine (HPF.out _ Tb_9.out).mono ?_
  rintro e w10 ⟨Af, cf, rfl, ho, hb⟩
  have bg_10 := keep1 hb bg_9
  have vg_10 := keep1 hb vg_9
  have bk_10 := keep1 hb bk_9
  have vk_10 := keep1 hb vk_9
  have Tb_10 := Lib.hid ((Tb_9.out.below hb).call hb.size)
  have Sg_10 := Lib.hid ((Sg_9.out.below hb).call hb.size)
  have Sk_10 := Lib.hid ((Sk_9.out.below hb).call hb.size)
  have HB_10 : Hid (Below w.heap.size w w10) := Lib.hid (HB_9.out.trans (hb.mono HB_9.out.size))
  have Sf_10 := Lib.hid (sd_of_own ho OKF.out)
  clear hb ho bg_9 vg_9 bk_9 vk_9 Tb_9 Sg_9 Sk_9 HB_9
  obtain ⟨w11, hw⟩ : ∃ W : World, W = (w10.alloc (.cells #[.slice Af mf.length cf] 38)) := ⟨_, rfl⟩
  have hb : Below w10.heap.size w10 w11 := by rw [hw]; exact ((Below.refl _ _).alloc (by first | exact Nat.le_refl _ | (simp; done) | (simp; omega)) _)
  have bg_11 := keep1 hb bg_10
  have vg_11 := keep1 hb vg_10
  have bk_11 := keep1 hb bk_10
  have vk_11 := keep1 hb vk_10
  have Tb_11 := Lib.hid ((Tb_10.out.below hb).call hb.size)
  have Sg_11 := Lib.hid ((Sg_10.out.below hb).call hb.size)
  have Sk_11 := Lib.hid ((Sk_10.out.below hb).call hb.size)
  have Sf_11 := Lib.hid ((Sf_10.out.below hb).call hb.size)
  have HB_11 : Hid (Below w.heap.size w w11) := Lib.hid (HB_10.out.trans (hb.mono HB_10.out.size))
  have bf_11 : w11.cell? ⟨w10.heap.size, 0, none⟩ = some (.slice Af mf.length cf) := by rw [hw]; simp [go_sem]
  have lf_bg : (w10.alloc (.cells #[.slice Af mf.length cf] 38)).cell? ⟨w2.heap.size, 0, none⟩ = some (.slice Ag ms.length cg) := by rw [← hw]; exact bg_11
  have lf_vg : (w10.alloc (.cells #[.slice Af mf.length cf] 38)).cell? ⟨w2.heap.size, 1, none⟩ = some (.int .i64 rb) := by rw [← hw]; exact vg_11
  have lf_bk : (w10.alloc (.cells #[.slice Af mf.length cf] 38)).cell? ⟨w8.heap.size, 0, none⟩ = some (.slice Ak ms.length ck) := by rw [← hw]; exact bk_11
  have lf_vk : (w10.alloc (.cells #[.slice Af mf.length cf] 38)).cell? ⟨w8.heap.size, 1, none⟩ = some (.int .i64 rb) := by rw [← hw]; exact vk_11
  have lf_bf : (w10.alloc (.cells #[.slice Af mf.length cf] 38)).cell? ⟨w10.heap.size, 0, none⟩ = some (.slice Af mf.length cf) := by rw [← hw]; exact bf_11
  have HW11 : Hid ((w10.alloc (.cells #[.slice Af mf.length cf] 38)) = w11) := Lib.hid hw.symm
  clear hb hw bg_10 vg_10 bk_10 vk_10 Tb_10 Sg_10 Sk_10 Sf_10 HB_10
  clear Tb_11
  clear Sf_11
  clear bf_11
  clear lf_bf
  go_wp2_with fail
  rw [HW11.out]
  clear lf_bg lf_vg lf_bk lf_vk
  go_region_held3 (fun w' => w'.cell? ⟨w8.heap.size, 0, none⟩ = some (.slice Ak ms.length ck) ∧ w'.cell? ⟨w8.heap.size, 1, none⟩ = some (.int .i64 rb) ∧ w'.cell? ⟨w2.heap.size, 0, none⟩ = some (.slice Ag ms.length cg) ∧ w'.cell? ⟨w2.heap.size, 1, none⟩ = some (.int .i64 rb))
    (first | go_keep | exact ⟨bk_11, vk_11, bg_11, vg_11⟩ | exact ⟨bk_12, vk_12, bg_12, vg_12⟩ | exact ⟨bk_13, vk_13, bg_13, vg_13⟩ | exact ⟨bk_14, vk_14, bg_14, vg_14⟩)
    (first
      | (go_at_call 35; refine (equalFlag_any ms rb _ _ _ _ _ _ _ (Sk_11.out.drewN 1) (Sg_11.out.drewN 1)).mono ?_; rintro e w12 ⟨rfl, hb⟩; replace hb : Below w11.heap.size w11 w12 := (by first | exact hb | exact undrew hb); have bg_12 := keep1 hb bg_11; have vg_12 := keep1 hb vg_11; have bk_12 := keep1 hb bk_11; have vk_12 := keep1 hb vk_11; have Sg_12 := Lib.hid ((Sg_11.out.below hb).call hb.size); have Sk_12 := Lib.hid ((Sk_11.out.below hb).call hb.size); have HB_12 : Hid (Below w.heap.size w w12) := Lib.hid (HB_11.out.trans (hb.mono HB_11.out.size)); clear hb)
      | (go_at_call 45; refine (implVF_v ms rb _ _ _ _ Sg_12.out (by omega) HV.out).mono ?_; rintro e w13 ⟨rfl, hb⟩; have bg_13 := keep1 hb bg_12; have vg_13 := keep1 hb vg_12; have bk_13 := keep1 hb bk_12; have vk_13 := keep1 hb vk_12; have Sg_13 := Lib.hid ((Sg_12.out.below hb).call hb.size); have Sk_13 := Lib.hid ((Sk_12.out.below hb).call hb.size); have HB_13 : Hid (Below w.heap.size w w13) := Lib.hid (HB_12.out.trans (hb.mono HB_12.out.size)); clear hb)
      | (go_at_call 31; refine (newlines_w t _ (by omega) HQ.out).mono ?_; rintro e w14 ⟨rfl, hb⟩; have bg_14 := keep1 hb bg_13; have vg_14 := keep1 hb vg_13; have bk_14 := keep1 hb bk_13; have vk_14 := keep1 hb vk_13; have Sg_14 := Lib.hid ((Sg_13.out.below hb).call hb.size); have Sk_14 := Lib.hid ((Sk_13.out.below hb).call hb.size); have HB_14 : Hid (Below w.heap.size w w14) := Lib.hid (HB_13.out.trans (hb.mono HB_13.out.size)); clear hb))
  go_wp2
  go_ret
  exact ⟨by first | rfl | kernel_rfl | (go_simp; done), HB_14.out⟩

theorem lifted (os : Os) (started : os.Started) (H : Type) (enc : TypeId × Value → H) :
    ReturnsInHanded {} Tryd.checked os 11 .any (fun w args => (Rows.fnParseFlagSpec.pre enc Tryd.prog Tryd.f11 [] false w args ∧ laidMetH Tryd.prog laidL w) ∧ sizedMet enc Tryd.prog Tryd.f11 (OpenSpec.ofChange Rows.fnParseFlagSpec) false w args) (Rows.fnParseFlagSpec.post enc Tryd.prog Tryd.f11 false true false false) := by
  refine handed_shaped (C := Tryd.checked) (X := fun w _ => laidMetH Tryd.prog laidL w) (fun _ _ _ hh h => h.of_heap hh) own started (by kernel_rfl) Tryd.func11
    (ChangeSpec.witness_shaped (enc := enc) (C := Tryd.checked) (os := os) (X := fun w _ => laidMetH Tryd.prog laidL w) false (World.laidAll Tryd.prog os laidL) #[.slice none 0 0] 8 (World.laidAll_os _ _ _) (World.shaped_of_ZipB (by kernel_rfl) (by kernel_rfl)) (by kernel_rfl) (by kernel_rfl) (by kernel_rfl) (door_met os _)) ?_
  intro W base args ds gs before hval0 hW hcnd hL hsh
  have hval : ∀ (j : Nat) t v, Tryd.f11.params[j]? = some t → args[j]? = some v → Value.okWide Tryd.prog W .any base t v := hval0
  have hW' := hW
  obtain ⟨p, q, hA0, hV, rfl, hfz, hnd⟩ := hW
  have hA : DataW.TrodAll enc Tryd.prog W 0 (fun _ => true) true Tryd.f11.params.toList args.toList ds p := hA0
  rw [Tryd.params11] at hA hval
  obtain ⟨v0, vs0, d0, ds0, p0, q0, hargs, rfl, rfl, h0, r0⟩ := trodAll_cons hA
  obtain ⟨rfl, rfl, rfl⟩ := trodAll_nil r0
  obtain rfl : args = #[v0] := by cases args; simp_all
  obtain ⟨rfl, rfl⟩ := trodVars_none hV
  have k0 := h0
  have lt0 : ∀ x ∈ p0, x.block < W.heap.size := by obtain ⟨m, hm⟩ := k0; exact DataW.trod_lt m _ _ _ hm
  obtain ⟨A0, n0, c0, l0, rfl, w0⟩ := open_code (hval 0 47 v0 rfl rfl) h0
  clear hA0 hval0
  refine (walk A0 n0 c0 l0 W w0 (tab_of_laid hL hsh)).mono fun e W' ⟨he, bel⟩ => ?_
  subst he
  exact ⟨_, rfl, _, _, _, [], _, [], hW', trodAll_mk1 (shut_bool Tryd.underlying4 _), (trodAll_cons_mk (Below.trod laidOut (by kernel_rfl) (of_decide_eq_true (by kernel_rfl)) k0 bel lt0) trodAll_mk0), rfl, bel.frame _, fun h => by cases h⟩

theorem over : Rows.fnParseFlagRow.holds Tryd.pinned (OpenSpec.ofChange Rows.fnParseFlagSpec) :=
  OpenClaim.holds_of_wide 11 Tryd.f11 rfl rfl rfl rfl rfl rfl rfl ⟨rfl, rfl, rfl, rfl, rfl⟩ rfl rfl rfl rfl rfl (by kernel_rfl) Tryd.func11 (by kernel_rfl)
    (of_decide_eq_true (by kernel_rfl)) (by unfold Func.isWrapper; first | (rw [if_pos (by decide +kernel)]; kernel_rfl) | (rw [if_neg (by decide +kernel)]; exact ⟨rfl, rfl⟩))
    (fun os started H enc _ => lifted os started H enc)

theorem proved : Rows.FnParseFlagCardSaid :=
  Claim7.holds_tied_plain_at .later [] laidK true _ true
    over (fun _ h => by cases h) (by kernel_rfl) (fun _ h => by cases h) fnParseFlag_row_tie rfl ⟨rfl, rfl⟩ (by kernel_rfl) rfl
    (fun f fn hf hfn => by
      obtain rfl : f = 11 := (Option.some.inj ((show Tryd.prog.funcNamed "loop.example/namedflags/laws.FnParseFlag" = some 11 by kernel_rfl).symm.trans hf)).symm
      obtain rfl : fn = Tryd.f11 := (Option.some.inj (Tryd.func11.symm.trans hfn)).symm
      exact ⟨by kernel_rfl, fun j t ht => by
        have hm := Array.mem_of_getElem? ht
        have hall : (List.all (Array.toList Tryd.f11.params) fun u => !Tryd.prog.wantsStandIn u) = true := by kernel_rfl
        exact (show Tryd.prog.wantsStandIn t = false by simpa using List.all_eq_true.1 hall t (by simpa using hm))⟩)
    (by kernel_rfl)
end Go.Proofs.YtpfdghbjagdhfaaDoor.fnParseFlag
