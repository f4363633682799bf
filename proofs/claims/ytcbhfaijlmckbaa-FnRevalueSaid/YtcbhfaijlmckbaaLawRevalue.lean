/-
For every code the law of new values returns true: the program's Revalue answers as its model, each name has the number of the table, and with the ranks as its table it is Renumber.
Conditions: none.
-/
import Derived.Test.YtcbhfaijlmckbaaGenH
import Derived.Test.YtcbhfaijlmckbaaOpenC
import Derived.Test.YtcbhfaijlmckbaaLBase
import Derived.Test.YtcbhfaijlmckbaaLEq
import Derived.Test.YtcbhfaijlmckbaaLTab
import Derived.Test.YtcbhfaijlmckbaaConvN
namespace Go.Proofs.Ytcbhfaijlmckbaa.fnRevalue
open Go.ChangeShapes Go.WideShapes Go.ChangeAt Go.RowKit
open Go.ChangeMaps (open_string shut_string)
set_option linter.unusedVariables false
set_option maxRecDepth 100000

set_option maxHeartbeats 16000000 in
theorem walk (A : Option Addr) (n c : Nat) (zs : List Int) (w : World) (h : SB w w.heap.size A n c zs) :
    Calls Try.prog 10 #[.slice A n c] w fun e w' => e = .returned (.bool true) ∧ Below w.heap.size w w' := by
  have hm := h.max
  have hcap := h.cap
  unfold maxLen at hm
  have HS0 := Lib.hid h
  clear h
  by_cases hbig : 1048576 < (n : Int)
  · go_enter Try.func10, Try.ntmps10
    go_wp2
    go_ret
    exact ⟨rfl, Below.refl _ _⟩
  go_enter Try.func10, Try.ntmps10
  go_wp2_with fail
  refine (drawRevalue_s A n c zs _ HS0.out).mono ?_
  rintro e w1 ⟨Aa, ca, dsa, T, q, ct, ts, rfl, hna, hsma, hq, hsa, hst, hb⟩
  have HB_1 := Lib.hid hb
  have Sa_1 := Lib.hid hsa
  have HSMa := Lib.hid hsma
  have HOKa : Hid (∀ d ∈ dsa, d.ok) := Lib.hid (fun d hd => small_ok (hsma d hd))
  have St_1 := Lib.hid hst
  clear hb hsa hsma hst
  obtain ⟨w2, hw⟩ : ∃ W : World, W = (w1.alloc (.cells #[.slice Aa dsa.length ca] 25)) := ⟨_, rfl⟩
  have hb : Below w1.heap.size w1 w2 := by rw [hw]; exact ((Below.refl _ _).alloc (by first | exact Nat.le_refl _ | (simp; done) | (simp; omega)) _)
  have Sa_2 := Lib.hid ((Sa_1.out.below hb).call hb.size)
  have St_2 := Lib.hid ((St_1.out.below hb).call hb.size)
  have HB_2 : Hid (Below w.heap.size w w2) := Lib.hid (HB_1.out.trans (hb.mono HB_1.out.size))
  have ba_2 : w2.cell? ⟨w1.heap.size, 0, none⟩ = some (.slice Aa dsa.length ca) := by rw [hw]; simp [go_sem]
  have lf_ba : (w1.alloc (.cells #[.slice Aa dsa.length ca] 25)).cell? ⟨w1.heap.size, 0, none⟩ = some (.slice Aa dsa.length ca) := by rw [← hw]; exact ba_2
  have HW2 : Hid ((w1.alloc (.cells #[.slice Aa dsa.length ca] 25)) = w2) := Lib.hid hw.symm
  clear hb hw Sa_1 St_1 HB_1
  have hql : ts.length = q := St_2.out.len
  have OKM0 : ∀ d ∈ mReval dsa ts, d.ok := mReval_ok HOKa.out
  have OKR : Hid (∀ d ∈ mRenum dsa, d.ok) := Lib.hid (byR_ok HOKa.out fun r h => idR_i h)
  have hml := mReval_len dsa ts
  have hrl : (mRenum dsa).length ≤ 12 := byR_len _ _
  have HIM : Hid (∀ (A : Option Addr) (n c : Nat) (R : Option Addr) (q k : Nat) (w : World), SD w w.heap.size A n c dsa → SI w w.heap.size R q k ts → Calls Try.prog 44 #[.agg #[.slice A n c], .slice R q k] w (EnumR (mReval dsa ts) (tabN dsa ts) w)) := Lib.hid fun A n c R q k w h1 h2 => implReval_any dsa ts A R n c q k w h1 h2
  have HSP : Hid (∀ (A : Option Addr) (n c : Nat) (R : Option Addr) (q k : Nat) (w : World), SD w w.heap.size A n c dsa → SI w w.heap.size R q k ts → n ≤ 1048576 → Calls Try.prog 45 #[.agg #[.slice A n c], .slice R q k] w (EnumR (mReval dsa ts) (tabN dsa ts) w)) := Lib.hid fun A n c R q k w h1 h2 h3 => specReval_any dsa ts A R n c q k w h1 h2 h3
  unfold EnumR at HIM HSP
  have HFIT : Hid (tabN dsa ts = true → RevL dsa ts (upTo q) (mReval dsa ts)) := Lib.hid (fun h => by have := rev_law h; rw [hql] at this; exact this)
  have HQL := Lib.hid hql
  clear hql
  generalize mReval dsa ts = ms at *
  generalize hok : tabN dsa ts = ok at *
  have HOK := Lib.hid hok
  have OKM := Lib.hid OKM0
  clear OKM0 hok
  go_wp2_with fail
  rw [HW2.out]
  clear lf_ba
  refine (HIM.out _ _ _ _ _ _ _ Sa_2.out St_2.out).mono ?_
  rintro e w3 ⟨Ag, cg, rfl, ho, hb⟩
  have ba_3 := keep1 hb ba_2
  have Sa_3 := Lib.hid ((Sa_2.out.below hb).call hb.size)
  have St_3 := Lib.hid ((St_2.out.below hb).call hb.size)
  have HB_3 : Hid (Below w.heap.size w w3) := Lib.hid (HB_2.out.trans (hb.mono HB_2.out.size))
  have Sg_3 := Lib.hid (sd_of_own ho OKM.out)
  clear hb ho ba_2 Sa_2 St_2 HB_2
  obtain ⟨w4, hw⟩ : ∃ W : World, W = (w3.alloc (.cells #[.slice Ag ms.length cg] 25)) := ⟨_, rfl⟩
  have hb : Below w3.heap.size w3 w4 := by rw [hw]; exact ((Below.refl _ _).alloc (by first | exact Nat.le_refl _ | (simp; done) | (simp; omega)) _)
  have ba_4 := keep1 hb ba_3
  have Sa_4 := Lib.hid ((Sa_3.out.below hb).call hb.size)
  have St_4 := Lib.hid ((St_3.out.below hb).call hb.size)
  have Sg_4 := Lib.hid ((Sg_3.out.below hb).call hb.size)
  have HB_4 : Hid (Below w.heap.size w w4) := Lib.hid (HB_3.out.trans (hb.mono HB_3.out.size))
  have bg_4 : w4.cell? ⟨w3.heap.size, 0, none⟩ = some (.slice Ag ms.length cg) := by rw [hw]; simp [go_sem]
  have lf_ba : (w3.alloc (.cells #[.slice Ag ms.length cg] 25)).cell? ⟨w1.heap.size, 0, none⟩ = some (.slice Aa dsa.length ca) := by rw [← hw]; exact ba_4
  have lf_bg : (w3.alloc (.cells #[.slice Ag ms.length cg] 25)).cell? ⟨w3.heap.size, 0, none⟩ = some (.slice Ag ms.length cg) := by rw [← hw]; exact bg_4
  have HW4 : Hid ((w3.alloc (.cells #[.slice Ag ms.length cg] 25)) = w4) := Lib.hid hw.symm
  clear hb hw ba_3 Sa_3 St_3 Sg_3 HB_3
  go_wp2_with fail
  rw [HW4.out]
  clear lf_ba lf_bg
  refine (HSP.out _ _ _ _ _ _ _ Sa_4.out St_4.out (by omega)).mono ?_
  rintro e w5 ⟨Aw, cw, rfl, ho, hb⟩
  have ba_5 := keep1 hb ba_4
  have bg_5 := keep1 hb bg_4
  have Sa_5 := Lib.hid ((Sa_4.out.below hb).call hb.size)
  have St_5 := Lib.hid ((St_4.out.below hb).call hb.size)
  have Sg_5 := Lib.hid ((Sg_4.out.below hb).call hb.size)
  have HB_5 : Hid (Below w.heap.size w w5) := Lib.hid (HB_4.out.trans (hb.mono HB_4.out.size))
  have Sw_5 := Lib.hid (sd_of_own ho OKM.out)
  clear hb ho ba_4 bg_4 Sa_4 St_4 Sg_4 HB_4
  obtain ⟨w6, hw⟩ : ∃ W : World, W = (w5.alloc (.cells #[.slice Aw ms.length cw] 25)) := ⟨_, rfl⟩
  have hb : Below w5.heap.size w5 w6 := by rw [hw]; exact ((Below.refl _ _).alloc (by first | exact Nat.le_refl _ | (simp; done) | (simp; omega)) _)
  have ba_6 := keep1 hb ba_5
  have bg_6 := keep1 hb bg_5
  have Sa_6 := Lib.hid ((Sa_5.out.below hb).call hb.size)
  have St_6 := Lib.hid ((St_5.out.below hb).call hb.size)
  have Sg_6 := Lib.hid ((Sg_5.out.below hb).call hb.size)
  have Sw_6 := Lib.hid ((Sw_5.out.below hb).call hb.size)
  have HB_6 : Hid (Below w.heap.size w w6) := Lib.hid (HB_5.out.trans (hb.mono HB_5.out.size))
  have bw_6 : w6.cell? ⟨w5.heap.size, 0, none⟩ = some (.slice Aw ms.length cw) := by rw [hw]; simp [go_sem]
  have lf_ba : (w5.alloc (.cells #[.slice Aw ms.length cw] 25)).cell? ⟨w1.heap.size, 0, none⟩ = some (.slice Aa dsa.length ca) := by rw [← hw]; exact ba_6
  have lf_bg : (w5.alloc (.cells #[.slice Aw ms.length cw] 25)).cell? ⟨w3.heap.size, 0, none⟩ = some (.slice Ag ms.length cg) := by rw [← hw]; exact bg_6
  have lf_bw : (w5.alloc (.cells #[.slice Aw ms.length cw] 25)).cell? ⟨w5.heap.size, 0, none⟩ = some (.slice Aw ms.length cw) := by rw [← hw]; exact bw_6
  have HW6 : Hid ((w5.alloc (.cells #[.slice Aw ms.length cw] 25)) = w6) := Lib.hid hw.symm
  clear hb hw ba_5 bg_5 Sa_5 St_5 Sg_5 Sw_5 HB_5
  go_wp2_with fail
  rw [HW6.out]
  clear lf_ba lf_bg lf_bw
  refine (equalEnum_any ms _ _ _ _ _ _ _ Sg_6.out Sw_6.out).mono ?_
  rintro e w7 ⟨rfl, hb⟩
  have ba_7 := keep1 hb ba_6
  have bg_7 := keep1 hb bg_6
  have bw_7 := keep1 hb bw_6
  have Sa_7 := Lib.hid ((Sa_6.out.below hb).call hb.size)
  have St_7 := Lib.hid ((St_6.out.below hb).call hb.size)
  have Sg_7 := Lib.hid ((Sg_6.out.below hb).call hb.size)
  have Sw_7 := Lib.hid ((Sw_6.out.below hb).call hb.size)
  have HB_7 : Hid (Below w.heap.size w w7) := Lib.hid (HB_6.out.trans (hb.mono HB_6.out.size))
  clear hb  ba_6 bg_6 bw_6 Sa_6 St_6 Sg_6 Sw_6 HB_6
  cases ok
  · skip
    go_wp2_with fail
    refine (equalEnum_any ms _ _ _ _ _ _ _ Sg_7.out Sw_7.out).mono ?_
    rintro e w8 ⟨rfl, hb⟩
    have ba_8 := keep1 hb ba_7
    have bg_8 := keep1 hb bg_7
    have bw_8 := keep1 hb bw_7
    have Sa_8 := Lib.hid ((Sa_7.out.below hb).call hb.size)
    have St_8 := Lib.hid ((St_7.out.below hb).call hb.size)
    have Sg_8 := Lib.hid ((Sg_7.out.below hb).call hb.size)
    have Sw_8 := Lib.hid ((Sw_7.out.below hb).call hb.size)
    have HB_8 : Hid (Below w.heap.size w w8) := Lib.hid (HB_7.out.trans (hb.mono HB_7.out.size))
    clear hb  ba_7 bg_7 bw_7 Sa_7 St_7 Sg_7 Sw_7 HB_7
    go_wp2
    go_ret
    exact ⟨rfl, HB_8.out⟩
  have HF := Lib.hid (HFIT.out rfl)
  clear HFIT HIM HSP
  clear Sw_7
  clear bw_7
  have HVM := Lib.hid HF.out.ve
  have HVAL := Lib.hid HF.out.val
  have HAG : Hid (∀ (A : Option Addr) (n c : Nat) (R : Option Addr) (q' k : Nat) (w : World), SD w w.heap.size A n c dsa → SI w w.heap.size R q' k (upTo q) → Calls Try.prog 44 #[.agg #[.slice A n c], .slice R q' k] w (EnumR (mRenum dsa) true w)) := Lib.hid fun A n c R q' k w h1 h2 => by
    have := implReval_any dsa (upTo q) A R n c q' k w h1 h2
    rw [HF.out.again.1, HF.out.again.2] at this
    exact this
  unfold EnumR at HAG
  clear HF
  go_wp2_with fail
  obtain ⟨G, hG⟩ : ∃ G, w7.heap.size = G := ⟨_, rfl⟩
  have HG := Lib.hid hG
  have H0 : Hid (Below G w7 (w7.alloc (.cells #[] 3))) := Lib.hid (by rw [← hG]; exact (Below.refl _ _).alloc (Nat.le_refl _) _)
  have H1 : Hid ((w7.alloc (.cells #[] 3)).ownsRow G 3 1 (.slice (some ⟨w7.heap.size, 0, none⟩) 0 0) 0 (flatI (upTo 0))) := Lib.hid (by rw [← hG]; exact World.ownsRow_made w7 #[] 0 (Nat.le_refl _) (by unfold maxLen; omega) rfl)
  clear hG
  go_wp2
  go_loopw [9, 10] (fun v i wr => ∃ k : Nat, k ≤ q ∧ i = .int .i64 k ∧ Hid (wr.ownsRow G 3 1 v k (flatI (upTo k))) ∧ Hid (Below G w7 wr)) (fun _ i _ => q - (intOf i).toNat)
  case atStart => exact ⟨0, Nat.zero_le _, rfl, H1, H0⟩
  case round =>
    clear H0 H1
    obtain ⟨k, hk, rfl, hown, hbel⟩ := hrel
    have hgs : G ≤ wr.heap.size := by have := hbel.out.size; have := HG.out; omega
    by_cases hlt : k < q
    · have hi1 : (k : Int) < (q : Int) := by omega
      go_wp2_with (at_builtin; refine wpList_app_I rfl _ _ rfl G _ _ _ rfl hown.out (k : Int) _ _ rfl (by first | rfl | simp) (by omega) hgs ?_; intro v' w9 ho hb; have HO9 := Lib.hid ho; have HB9 := Lib.hid (hbel.out.trans hb); clear ho hb)
      go_roundw
      case rel => exact ⟨k + 1, by omega, by go_num, Lib.hid (by rw [upTo_snoc]; simpa [flatI] using HO9.out), HB9⟩
      case measure => simp [intOf]; omega
    · obtain rfl : k = q := by omega
      obtain ⟨AR, cR, hvr⟩ := own_form hown.out
      subst hvr
      have hb : Below w7.heap.size w7 wr := by rw [HG.out]; exact hbel.out
      have Sr_0 : Hid (SI wr wr.heap.size AR k cR (upTo k)) := Lib.hid (si_of_own hown.out (fun t ht => by have := upTo_rng (q := k) (by omega) t ht; omega))
      obtain ⟨w30, hwn⟩ : ∃ W : World, W = wr := ⟨_, rfl⟩
      subst hwn
      have ba_30 := keep1 hb ba_7
      have bg_30 := keep1 hb bg_7
      have Sa_30 := Lib.hid ((Sa_7.out.below hb).call hb.size)
      have St_30 := Lib.hid ((St_7.out.below hb).call hb.size)
      have Sg_30 := Lib.hid ((Sg_7.out.below hb).call hb.size)
      have HB_30 : Hid (Below w.heap.size w w30) := Lib.hid (HB_7.out.trans (hb.mono HB_7.out.size))
      have Sr_30 := Sr_0
      clear hb hown hbel Sr_0 ba_7 bg_7 Sa_7 St_7 Sg_7 HB_7
      have hi9 : ¬ (k : Int) < (k : Int) := by omega
      go_wp2
      go_loopw [11] (fun i wr => ∃ (j : Nat), j ≤ dsa.length ∧ i = .int .i64 j ∧ Hid (Below w.heap.size w wr) ∧ Hid (wr.cell? ⟨w1.heap.size, 0, none⟩ = some (.slice Aa dsa.length ca)) ∧ Hid (wr.cell? ⟨w3.heap.size, 0, none⟩ = some (.slice Ag ms.length cg)) ∧ Hid (SD wr wr.heap.size Aa dsa.length ca dsa) ∧ Hid (SD wr wr.heap.size Ag ms.length cg ms) ∧ Hid (SI wr wr.heap.size T k ct ts) ∧ Hid (SI wr wr.heap.size AR k cR (upTo k))) (fun i _ => dsa.length - (intOf i).toNat)
      case atStart => exact ⟨0, Nat.zero_le _, rfl, HB_30, Lib.hid ba_30, Lib.hid bg_30, Sa_30, Sg_30, St_30, Sr_30⟩
      case round =>
        obtain ⟨j, hj, rfl, hbel, hca, hcg, hsa, hsg, hst, hsr⟩ := hrel
        clear ba_30 bg_30 HB_30 Sa_30 Sg_30 St_30 Sr_30
        have y1 := hca.out
        have y2 := hcg.out
        clear hca hcg
        by_cases hlt : j < dsa.length
        · obtain ⟨b, o, hA, hbb, x1, x2⟩ := hsa.out.at_ hlt
          subst hA
          obtain ⟨hv1, hv2⟩ := HVAL.out j hlt
          have HV1 := Lib.hid hv1
          have HV2 := Lib.hid hv2
          clear hv1 hv2 x2
          obtain ⟨z, hz⟩ : ∃ z, mLook dsa ts dsa[j].name = z := ⟨_, rfl⟩
          have HZZ := Lib.hid hz
          rw [hz] at HV1
          clear hz
          generalize dsa[j].name = t at *
          have hsl := hsa.out.max
          have hsc := hsa.out.cap
          unfold maxLen at hsl
          have hi1 : (j : Int) < (dsa.length : Int) := by omega
          have hi0 : (0 : Int) ≤ (j : Int) := by omega
          obtain ⟨w40, hwn⟩ : ∃ W : World, W = wr := ⟨_, rfl⟩
          subst hwn
          have HB_40 := hbel
          have ba_40 := y1
          have bg_40 := y2
          have Sa_40 := hsa
          have Sg_40 := hsg
          have St_40 := hst
          have Sr_40 := hsr
          have x1_40 := x1
          clear hbel y1 y2 hsa hsg hst hsr x1
          go_wp2_with fail
          go_region_held3 (fun w' => w'.cell? ⟨w1.heap.size, 0, none⟩ = some (.slice (some ⟨b, o, none⟩) dsa.length ca) ∧ w'.cell? ⟨w3.heap.size, 0, none⟩ = some (.slice Ag ms.length cg) ∧ w'.cell? ⟨b, o + j * 2, none⟩ = some (.string t))
            (first | go_keep | exact ⟨ba_40, bg_40, x1_40⟩ | exact ⟨ba_41, bg_41, x1_41⟩)
            (first
              | (go_at_call 20; refine (implValue_at ms _ _ _ _ _ (Sg_40.out.drewN 1) HVM.out HV1.out).mono ?_; rintro e w41 ⟨rfl, hb⟩; replace hb : Below w40.heap.size w40 w41 := (by first | exact hb | exact undrew hb); have ba_41 := keep1 hb ba_40; have bg_41 := keep1 hb bg_40; have x1_41 := keep1 hb x1_40; have Sa_41 := Lib.hid ((Sa_40.out.below hb).call hb.size); have Sg_41 := Lib.hid ((Sg_40.out.below hb).call hb.size); have St_41 := Lib.hid ((St_40.out.below hb).call hb.size); have Sr_41 := Lib.hid ((Sr_40.out.below hb).call hb.size); have HB_41 : Hid (Below w.heap.size w w41) := Lib.hid (HB_40.out.trans (hb.mono HB_40.out.size)); clear hb))
          go_wp2_with fail
          go_region_held3 (fun w' => w'.cell? ⟨w1.heap.size, 0, none⟩ = some (.slice (some ⟨b, o, none⟩) dsa.length ca) ∧ w'.cell? ⟨b, o + j * 2, none⟩ = some (.string t))
            (first | go_keep | exact ⟨ba_41, x1_41⟩ | exact ⟨ba_42, x1_42⟩)
            (first
              | (go_at_call 40; refine (implLook_v dsa ts t _ _ _ _ _ _ _ (Sa_41.out.drewN 1) (St_41.out.drewN 1) (by omega) HZZ.out HV2.out).mono ?_; rintro e w42 ⟨rfl, hb⟩; replace hb : Below w41.heap.size w41 w42 := (by first | exact hb | exact undrew hb); have ba_42 := keep1 hb ba_41; have bg_42 := keep1 hb bg_41; have x1_42 := keep1 hb x1_41; have Sa_42 := Lib.hid ((Sa_41.out.below hb).call hb.size); have Sg_42 := Lib.hid ((Sg_41.out.below hb).call hb.size); have St_42 := Lib.hid ((St_41.out.below hb).call hb.size); have Sr_42 := Lib.hid ((Sr_41.out.below hb).call hb.size); have HB_42 : Hid (Below w.heap.size w w42) := Lib.hid (HB_41.out.trans (hb.mono HB_41.out.size)); clear hb))
          go_wp2
          go_roundw
          case rel => exact ⟨j + 1, by omega, by go_num, HB_42, Lib.hid ba_42, Lib.hid bg_42, Sa_42, Sg_42, St_42, Sr_42⟩
          case measure => simp [intOf]; omega
        · obtain rfl : j = dsa.length := by omega
          obtain ⟨w40, hwn⟩ : ∃ W : World, W = wr := ⟨_, rfl⟩
          subst hwn
          have HB_40 := hbel
          have ba_40 := y1
          have bg_40 := y2
          have Sa_40 := hsa
          have Sg_40 := hsg
          have St_40 := hst
          have Sr_40 := hsr
          clear hbel y1 y2 hsa hsg hst hsr
          have hj9 : ¬ (dsa.length : Int) < (dsa.length : Int) := by omega
          generalize hrr : mRenum dsa = rs at *
          have HRR := Lib.hid hrr
          clear hrr
          go_wp2_with fail
          refine (HAG.out _ _ _ _ _ _ _ Sa_40.out Sr_40.out).mono ?_
          rintro e w41 ⟨Ah, ch, rfl, ho, hb⟩
          have ba_41 := keep1 hb ba_40
          have bg_41 := keep1 hb bg_40
          have Sa_41 := Lib.hid ((Sa_40.out.below hb).call hb.size)
          have Sg_41 := Lib.hid ((Sg_40.out.below hb).call hb.size)
          have St_41 := Lib.hid ((St_40.out.below hb).call hb.size)
          have Sr_41 := Lib.hid ((Sr_40.out.below hb).call hb.size)
          have HB_41 : Hid (Below w.heap.size w w41) := Lib.hid (HB_40.out.trans (hb.mono HB_40.out.size))
          have Sh_41 := Lib.hid (sd_of_own ho OKR.out)
          clear hb ho ba_40 bg_40 Sa_40 Sg_40 St_40 Sr_40 HB_40
          obtain ⟨w42, hw⟩ : ∃ W : World, W = (w41.alloc (.cells #[.slice Ah rs.length ch] 25)) := ⟨_, rfl⟩
          have hb : Below w41.heap.size w41 w42 := by rw [hw]; exact ((Below.refl _ _).alloc (by first | exact Nat.le_refl _ | (simp; done) | (simp; omega)) _)
          have ba_42 := keep1 hb ba_41
          have bg_42 := keep1 hb bg_41
          have Sa_42 := Lib.hid ((Sa_41.out.below hb).call hb.size)
          have Sg_42 := Lib.hid ((Sg_41.out.below hb).call hb.size)
          have St_42 := Lib.hid ((St_41.out.below hb).call hb.size)
          have Sr_42 := Lib.hid ((Sr_41.out.below hb).call hb.size)
          have Sh_42 := Lib.hid ((Sh_41.out.below hb).call hb.size)
          have HB_42 : Hid (Below w.heap.size w w42) := Lib.hid (HB_41.out.trans (hb.mono HB_41.out.size))
          have bh_42 : w42.cell? ⟨w41.heap.size, 0, none⟩ = some (.slice Ah rs.length ch) := by rw [hw]; simp [go_sem]
          have lf_ba : (w41.alloc (.cells #[.slice Ah rs.length ch] 25)).cell? ⟨w1.heap.size, 0, none⟩ = some (.slice Aa dsa.length ca) := by rw [← hw]; exact ba_42
          have lf_bg : (w41.alloc (.cells #[.slice Ah rs.length ch] 25)).cell? ⟨w3.heap.size, 0, none⟩ = some (.slice Ag ms.length cg) := by rw [← hw]; exact bg_42
          have lf_bh : (w41.alloc (.cells #[.slice Ah rs.length ch] 25)).cell? ⟨w41.heap.size, 0, none⟩ = some (.slice Ah rs.length ch) := by rw [← hw]; exact bh_42
          have HW42 : Hid ((w41.alloc (.cells #[.slice Ah rs.length ch] 25)) = w42) := Lib.hid hw.symm
          clear hb hw ba_41 bg_41 Sa_41 Sg_41 St_41 Sr_41 Sh_41 HB_41
          have HIR : Hid (∀ (A : Option Addr) (n c : Nat) (w : World), SD w w.heap.size A n c dsa → Calls Try.prog 15 #[.agg #[.slice A n c]] w (EnumE rs w)) := Lib.hid fun A n c w h => HRR.out ▸ implRenum_any dsa A n c w h
          unfold EnumE at HIR
          go_wp2_with fail
          rw [HW42.out]
          clear lf_ba lf_bg lf_bh
          go_region_held3 (fun w' => w'.cell? ⟨w41.heap.size, 0, none⟩ = some (.slice Ah rs.length ch) ∧ w'.cell? ⟨w1.heap.size, 0, none⟩ = some (.slice Aa dsa.length ca))
            (first | go_keep | exact ⟨bh_42, ba_42⟩ | exact ⟨bh_43, ba_43⟩ | exact ⟨bh_44, ba_44⟩)
            (first
              | (go_at_call 15; refine (HIR.out _ _ _ _ (Sa_42.out.drewN 1)).mono ?_; rintro e w43 ⟨Ai, ci, rfl, ho, hb⟩; replace hb : Below w42.heap.size w42 w43 := (by first | exact hb | exact undrew hb); have ba_43 := keep1 hb ba_42; have bg_43 := keep1 hb bg_42; have bh_43 := keep1 hb bh_42; have Sa_43 := Lib.hid ((Sa_42.out.below hb).call hb.size); have Sg_43 := Lib.hid ((Sg_42.out.below hb).call hb.size); have St_43 := Lib.hid ((St_42.out.below hb).call hb.size); have Sr_43 := Lib.hid ((Sr_42.out.below hb).call hb.size); have Sh_43 := Lib.hid ((Sh_42.out.below hb).call hb.size); have HB_43 : Hid (Below w.heap.size w w43) := Lib.hid (HB_42.out.trans (hb.mono HB_42.out.size)); have Si_43 := Lib.hid (sd_of_own ho OKR.out); clear ho; clear hb)
              | (go_at_call 16; refine (equalEnum_any rs _ _ _ _ _ _ _ Sh_43.out Si_43.out).mono ?_; rintro e w44 ⟨rfl, hb⟩; have ba_44 := keep1 hb ba_43; have bg_44 := keep1 hb bg_43; have bh_44 := keep1 hb bh_43; have Sa_44 := Lib.hid ((Sa_43.out.below hb).call hb.size); have Sg_44 := Lib.hid ((Sg_43.out.below hb).call hb.size); have St_44 := Lib.hid ((St_43.out.below hb).call hb.size); have Sr_44 := Lib.hid ((Sr_43.out.below hb).call hb.size); have Sh_44 := Lib.hid ((Sh_43.out.below hb).call hb.size); have Si_44 := Lib.hid ((Si_43.out.below hb).call hb.size); have HB_44 : Hid (Below w.heap.size w w44) := Lib.hid (HB_43.out.trans (hb.mono HB_43.out.size)); clear hb))
          go_wp2
          go_ret
          exact ⟨rfl, HB_44.out⟩

theorem lifted (os : Os) (started : os.Started) (H : Type) (enc : TypeId × Value → H) :
    ReturnsInHanded {} Try.checked os 10 .any (Rows.fnRevalueSpec.pre6 enc Try.prog Try.f10 Rows.fnRevalueRow.domain false) (Rows.fnRevalueSpec.post enc Try.prog Try.f10 false true false false) := by
  refine returnsInHanded_of_change (C := Try.checked) own started (by kernel_rfl) Try.func10
    (ChangeSpec.witness6 (enc := enc) (C := Try.checked) false ⟨#[], #[.slice none 0 0], []⟩ 8 (by kernel_rfl) (by kernel_rfl) (by kernel_rfl) (by kernel_rfl)) ?_
  intro W base args ds gs before hval0 hW hcnd _
  have hval : ∀ (j : Nat) t v, Try.f10.params[j]? = some t → args[j]? = some v → Value.okWide Try.prog W .any base t v := hval0
  have hW' := hW
  obtain ⟨p, q, hA0, hV, rfl, hfz, hnd⟩ := hW
  have hA : DataW.TrodAll enc Try.prog W 0 (fun _ => true) true Try.f10.params.toList args.toList ds p := hA0
  rw [Try.params10] at hA hval
  obtain ⟨v0, vs0, d0, ds0, p0, q0, hargs, rfl, rfl, h0, r0⟩ := trodAll_cons hA
  obtain ⟨rfl, rfl, rfl⟩ := trodAll_nil r0
  obtain rfl : args = #[v0] := by cases args; simp_all
  obtain ⟨rfl, rfl⟩ := trodVars_none hV
  have k0 := h0
  have lt0 : ∀ x ∈ p0, x.block < W.heap.size := by obtain ⟨m, hm⟩ := k0; exact DataW.trod_lt m _ _ _ hm
  obtain ⟨A0, n0, c0, l0, rfl, w0⟩ := open_code (hval 0 22 v0 rfl rfl) h0
  clear hA0 hval0
  refine (walk A0 n0 c0 l0 W w0).mono fun e W' ⟨he, bel⟩ => ?_
  subst he
  exact ⟨_, rfl, _, _, _, [], _, [], hW', trodAll_mk1 (shut_bool Try.underlying4 _), (trodAll_cons_mk (Below.trod laidOut (by kernel_rfl) (of_decide_eq_true (by kernel_rfl)) k0 bel lt0) trodAll_mk0), rfl, bel.frame _, fun h => by cases h⟩

theorem over : Rows.fnRevalueRow.holds Try.pinned (OpenSpec.ofChange Rows.fnRevalueSpec) :=
  OpenClaim.holds_of_wide 10 Try.f10 rfl rfl rfl rfl rfl rfl rfl ⟨rfl, rfl, rfl, rfl, rfl⟩ rfl rfl rfl rfl rfl (by kernel_rfl) Try.func10 (by kernel_rfl)
    (of_decide_eq_true (by kernel_rfl)) (by unfold Func.isWrapper; first | (rw [if_pos (by decide +kernel)]; kernel_rfl) | (rw [if_neg (by decide +kernel)]; exact ⟨rfl, rfl⟩))
    (fun os started H enc _ => lifted os started H enc)

theorem proved : Rows.FnRevalueSaid := over
end Go.Proofs.Ytcbhfaijlmckbaa.fnRevalue
