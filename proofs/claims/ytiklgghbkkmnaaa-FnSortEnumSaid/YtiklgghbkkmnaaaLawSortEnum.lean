/-
For every code the law of sorted enumerations returns true: the program's SortEnum answers as its model, its values never fall, its members are by value, each the one of before.
Conditions: none.
-/
import Derived.Test.YtiklgghbkkmnaaaGenD
import Derived.Test.YtiklgghbkkmnaaaLFun
import Derived.Test.YtiklgghbkkmnaaaOpenC
import Derived.Test.YtiklgghbkkmnaaaLPc
import Derived.Test.YtiklgghbkkmnaaaLEq
import Derived.Test.YtiklgghbkkmnaaaSortW
import Derived.Test.YtiklgghbkkmnaaaSameI
import Derived.Test.YtiklgghbkkmnaaaLBase
namespace Go.Proofs.Ytiklgghbkkmnaaa.fnSortEnum
open Go.ChangeShapes Go.WideShapes Go.ChangeAt Go.RowKit
open Go.ChangeMaps (open_string shut_string)
set_option linter.unusedVariables false
set_option maxRecDepth 100000

set_option maxHeartbeats 16000000 in
theorem walk (A : Option Addr) (n c : Nat) (zs : List Int) (w : World) (h : SB w w.heap.size A n c zs) :
    Calls Try.prog 13 #[.slice A n c] w fun e w' => e = .returned (.bool true) ∧ Below w.heap.size w w' := by
  have hm := h.max
  have hcap := h.cap
  unfold maxLen at hm
  have HS0 := Lib.hid h
  clear h
  by_cases hbig : 1048576 < (n : Int)
  · go_enter Try.func13, Try.ntmps13
    go_wp2
    go_ret
    exact ⟨rfl, Below.refl _ _⟩
  go_enter Try.func13, Try.ntmps13
  go_wp2_with fail
  refine (drawSortEnum_any A n c zs _ HS0.out).mono ?_
  rintro e w1 ⟨Aa, ca, dsa, rfl, hn, hsma, hsa, hb⟩
  have HB_1 := Lib.hid hb
  have Sa_1 := Lib.hid hsa
  have HSMa := Lib.hid hsma
  have HOKa : Hid (∀ d ∈ dsa, d.ok) := Lib.hid (fun d hd => small_ok (hsma d hd))
  clear hb hsa hsma
  obtain ⟨w2, hw⟩ : ∃ W : World, W = (w1.alloc (.cells #[.slice Aa dsa.length ca] 25)) := ⟨_, rfl⟩
  have hb : Below w1.heap.size w1 w2 := by rw [hw]; exact ((Below.refl _ _).alloc (by first | exact Nat.le_refl _ | (simp; done) | (simp; omega)) _)
  have Sa_2 := Lib.hid ((Sa_1.out.below hb).call hb.size)
  have HB_2 : Hid (Below w.heap.size w w2) := Lib.hid (HB_1.out.trans (hb.mono HB_1.out.size))
  have ba_2 : w2.cell? ⟨w1.heap.size, 0, none⟩ = some (.slice Aa dsa.length ca) := by rw [hw]; simp [go_sem]
  have lf_ba : (w1.alloc (.cells #[.slice Aa dsa.length ca] 25)).cell? ⟨w1.heap.size, 0, none⟩ = some (.slice Aa dsa.length ca) := by rw [← hw]; exact ba_2
  have HW2 : Hid ((w1.alloc (.cells #[.slice Aa dsa.length ca] 25)) = w2) := Lib.hid hw.symm
  clear hb hw Sa_1 HB_1
  have OKM0 : ∀ d ∈ mSort dsa, d.ok := fun d hd => HOKa.out d (mSort_mem hd)
  have hml := mSort_len dsa
  have HIM : Hid (∀ (A : Option Addr) (n c : Nat) (w : World), SD w w.heap.size A n c dsa → Calls Try.prog 43 #[.agg #[.slice A n c]] w (EnumE (mSort dsa) w)) := Lib.hid fun A n c w h => implSort_any dsa A n c w h
  have HSP : Hid (∀ (A : Option Addr) (n c : Nat) (w : World), SD w w.heap.size A n c dsa → Calls Try.prog 49 #[.agg #[.slice A n c]] w (EnumE (mSort dsa) w)) := Lib.hid fun A n c w h => specSort_any dsa A n c w h
  unfold EnumE at HIM HSP
  have HFIT : Hid (vEnum dsa = true → SortL dsa (mSort dsa)) := Lib.hid (fun h => by unfold mSort; rw [if_pos h]; exact sort_law h)
  generalize mSort dsa = ms at *
  have OKM := Lib.hid OKM0
  clear OKM0
  go_wp2_with fail
  rw [HW2.out]
  clear lf_ba
  refine (HIM.out _ _ _ _ Sa_2.out).mono ?_
  rintro e w3 ⟨Ag, cg, rfl, ho, hb⟩
  have ba_3 := keep1 hb ba_2
  have Sa_3 := Lib.hid ((Sa_2.out.below hb).call hb.size)
  have HB_3 : Hid (Below w.heap.size w w3) := Lib.hid (HB_2.out.trans (hb.mono HB_2.out.size))
  have Sg_3 := Lib.hid (sd_of_own ho OKM.out)
  clear hb ho ba_2 Sa_2 HB_2
  obtain ⟨w4, hw⟩ : ∃ W : World, W = (w3.alloc (.cells #[.slice Ag ms.length cg] 25)) := ⟨_, rfl⟩
  have hb : Below w3.heap.size w3 w4 := by rw [hw]; exact ((Below.refl _ _).alloc (by first | exact Nat.le_refl _ | (simp; done) | (simp; omega)) _)
  have ba_4 := keep1 hb ba_3
  have Sa_4 := Lib.hid ((Sa_3.out.below hb).call hb.size)
  have Sg_4 := Lib.hid ((Sg_3.out.below hb).call hb.size)
  have HB_4 : Hid (Below w.heap.size w w4) := Lib.hid (HB_3.out.trans (hb.mono HB_3.out.size))
  have bg_4 : w4.cell? ⟨w3.heap.size, 0, none⟩ = some (.slice Ag ms.length cg) := by rw [hw]; simp [go_sem]
  have lf_ba : (w3.alloc (.cells #[.slice Ag ms.length cg] 25)).cell? ⟨w1.heap.size, 0, none⟩ = some (.slice Aa dsa.length ca) := by rw [← hw]; exact ba_4
  have lf_bg : (w3.alloc (.cells #[.slice Ag ms.length cg] 25)).cell? ⟨w3.heap.size, 0, none⟩ = some (.slice Ag ms.length cg) := by rw [← hw]; exact bg_4
  have HW4 : Hid ((w3.alloc (.cells #[.slice Ag ms.length cg] 25)) = w4) := Lib.hid hw.symm
  clear hb hw ba_3 Sa_3 Sg_3 HB_3
  cases hv : vEnum dsa
  · skip
    have HV := Lib.hid hv
    clear hv
    go_wp2_with fail
    rw [HW4.out]
    clear lf_ba lf_bg
    go_region_held3 (fun w' => w'.cell? ⟨w3.heap.size, 0, none⟩ = some (.slice Ag ms.length cg) ∧ w'.cell? ⟨w1.heap.size, 0, none⟩ = some (.slice Aa dsa.length ca))
      (first | go_keep | exact ⟨bg_4, ba_4⟩ | exact ⟨bg_5, ba_5⟩ | exact ⟨bg_6, ba_6⟩ | exact ⟨bg_7, ba_7⟩)
      (first
        | (go_at_call 49; refine (HSP.out _ _ _ _ (Sa_4.out.drewN 1)).mono ?_; rintro e w5 ⟨Aw, cw, rfl, ho, hb⟩; replace hb : Below w4.heap.size w4 w5 := (by first | exact hb | exact undrew hb); have ba_5 := keep1 hb ba_4; have bg_5 := keep1 hb bg_4; have Sa_5 := Lib.hid ((Sa_4.out.below hb).call hb.size); have Sg_5 := Lib.hid ((Sg_4.out.below hb).call hb.size); have HB_5 : Hid (Below w.heap.size w w5) := Lib.hid (HB_4.out.trans (hb.mono HB_4.out.size)); have Sw_5 := Lib.hid (sd_of_own ho OKM.out); clear ho; clear hb)
        | (go_at_call 18; refine (equalEnum_any ms _ _ _ _ _ _ _ Sg_5.out Sw_5.out).mono ?_; rintro e w6 ⟨rfl, hb⟩; have ba_6 := keep1 hb ba_5; have bg_6 := keep1 hb bg_5; have Sa_6 := Lib.hid ((Sa_5.out.below hb).call hb.size); have Sg_6 := Lib.hid ((Sg_5.out.below hb).call hb.size); have Sw_6 := Lib.hid ((Sw_5.out.below hb).call hb.size); have HB_6 : Hid (Below w.heap.size w w6) := Lib.hid (HB_5.out.trans (hb.mono HB_5.out.size)); clear hb)
        | (go_at_call 23; refine (implVE_v dsa _ _ _ _ Sa_6.out HV.out).mono ?_; rintro e w7 ⟨rfl, hb⟩; have ba_7 := keep1 hb ba_6; have bg_7 := keep1 hb bg_6; have Sa_7 := Lib.hid ((Sa_6.out.below hb).call hb.size); have Sg_7 := Lib.hid ((Sg_6.out.below hb).call hb.size); have Sw_7 := Lib.hid ((Sw_6.out.below hb).call hb.size); have HB_7 : Hid (Below w.heap.size w w7) := Lib.hid (HB_6.out.trans (hb.mono HB_6.out.size)); clear hb))
    go_wp2_with fail
    go_region_held3 (fun w' => w'.cell? ⟨w3.heap.size, 0, none⟩ = some (.slice Ag ms.length cg) ∧ w'.cell? ⟨w1.heap.size, 0, none⟩ = some (.slice Aa dsa.length ca))
      (first | go_keep | exact ⟨bg_7, ba_7⟩ | exact ⟨bg_8, ba_8⟩ | exact ⟨bg_9, ba_9⟩)
      (first
        | (go_at_call 49; refine (HSP.out _ _ _ _ (Sa_7.out.drewN 1)).mono ?_; rintro e w8 ⟨Av, cv, rfl, ho, hb⟩; replace hb : Below w7.heap.size w7 w8 := (by first | exact hb | exact undrew hb); have ba_8 := keep1 hb ba_7; have bg_8 := keep1 hb bg_7; have Sa_8 := Lib.hid ((Sa_7.out.below hb).call hb.size); have Sg_8 := Lib.hid ((Sg_7.out.below hb).call hb.size); have Sw_8 := Lib.hid ((Sw_7.out.below hb).call hb.size); have HB_8 : Hid (Below w.heap.size w w8) := Lib.hid (HB_7.out.trans (hb.mono HB_7.out.size)); have Sv_8 := Lib.hid (sd_of_own ho OKM.out); clear ho; clear hb)
        | (go_at_call 18; refine (equalEnum_any ms _ _ _ _ _ _ _ Sg_8.out Sv_8.out).mono ?_; rintro e w9 ⟨rfl, hb⟩; have ba_9 := keep1 hb ba_8; have bg_9 := keep1 hb bg_8; have Sa_9 := Lib.hid ((Sa_8.out.below hb).call hb.size); have Sg_9 := Lib.hid ((Sg_8.out.below hb).call hb.size); have Sw_9 := Lib.hid ((Sw_8.out.below hb).call hb.size); have Sv_9 := Lib.hid ((Sv_8.out.below hb).call hb.size); have HB_9 : Hid (Below w.heap.size w w9) := Lib.hid (HB_8.out.trans (hb.mono HB_8.out.size)); clear hb))
    go_wp2
    go_ret
    exact ⟨rfl, HB_9.out⟩
  have HV := Lib.hid hv
  have HF := Lib.hid (HFIT.out hv)
  clear hv HFIT
  go_wp2_with fail
  rw [HW4.out]
  clear lf_ba lf_bg
  go_region_held3 (fun w' => w'.cell? ⟨w3.heap.size, 0, none⟩ = some (.slice Ag ms.length cg) ∧ w'.cell? ⟨w1.heap.size, 0, none⟩ = some (.slice Aa dsa.length ca))
    (first | go_keep | exact ⟨bg_4, ba_4⟩ | exact ⟨bg_5, ba_5⟩ | exact ⟨bg_6, ba_6⟩ | exact ⟨bg_7, ba_7⟩)
    (first
      | (go_at_call 49; refine (HSP.out _ _ _ _ (Sa_4.out.drewN 1)).mono ?_; rintro e w5 ⟨Aw, cw, rfl, ho, hb⟩; replace hb : Below w4.heap.size w4 w5 := (by first | exact hb | exact undrew hb); have ba_5 := keep1 hb ba_4; have bg_5 := keep1 hb bg_4; have Sa_5 := Lib.hid ((Sa_4.out.below hb).call hb.size); have Sg_5 := Lib.hid ((Sg_4.out.below hb).call hb.size); have HB_5 : Hid (Below w.heap.size w w5) := Lib.hid (HB_4.out.trans (hb.mono HB_4.out.size)); have Sw_5 := Lib.hid (sd_of_own ho OKM.out); clear ho; clear hb)
      | (go_at_call 18; refine (equalEnum_any ms _ _ _ _ _ _ _ Sg_5.out Sw_5.out).mono ?_; rintro e w6 ⟨rfl, hb⟩; have ba_6 := keep1 hb ba_5; have bg_6 := keep1 hb bg_5; have Sa_6 := Lib.hid ((Sa_5.out.below hb).call hb.size); have Sg_6 := Lib.hid ((Sg_5.out.below hb).call hb.size); have Sw_6 := Lib.hid ((Sw_5.out.below hb).call hb.size); have HB_6 : Hid (Below w.heap.size w w6) := Lib.hid (HB_5.out.trans (hb.mono HB_5.out.size)); clear hb)
      | (go_at_call 23; refine (implVE_v dsa _ _ _ _ Sa_6.out HV.out).mono ?_; rintro e w7 ⟨rfl, hb⟩; have ba_7 := keep1 hb ba_6; have bg_7 := keep1 hb bg_6; have Sa_7 := Lib.hid ((Sa_6.out.below hb).call hb.size); have Sg_7 := Lib.hid ((Sg_6.out.below hb).call hb.size); have Sw_7 := Lib.hid ((Sw_6.out.below hb).call hb.size); have HB_7 : Hid (Below w.heap.size w w7) := Lib.hid (HB_6.out.trans (hb.mono HB_6.out.size)); clear hb))
  go_wp2_with fail
  go_loopw [5] (fun i wr => ∃ (j : Nat), j ≤ ms.length + 1 ∧ i = .int .i64 j ∧ Hid (1 ≤ j) ∧ Hid (Below w.heap.size w wr) ∧ Hid (wr.cell? ⟨w1.heap.size, 0, none⟩ = some (.slice Aa dsa.length ca)) ∧ Hid (wr.cell? ⟨w3.heap.size, 0, none⟩ = some (.slice Ag ms.length cg)) ∧ Hid (SD wr wr.heap.size Aa dsa.length ca dsa) ∧ Hid (SD wr wr.heap.size Ag ms.length cg ms)) (fun i _ => ms.length + 1 - (intOf i).toNat)
  case atStart => exact ⟨1, by omega, rfl, Lib.hid (Nat.le_refl _), HB_7, Lib.hid ba_7, Lib.hid bg_7, Sa_7, Sg_7⟩
  case round =>
    obtain ⟨j, hj, rfl, hj1, hbel, hca, hcg, hsa, hsg⟩ := hrel
    have y1 := hca.out
    have y2 := hcg.out
    clear ba_7 bg_7 HB_7 Sa_7 Sg_7 Sw_7
    by_cases hlt : j < ms.length
    · obtain ⟨p, hp⟩ : ∃ p, j = p + 1 := ⟨j - 1, by have := hj1.out; omega⟩
      have HP := Lib.hid hp
      have hpl : p < ms.length := by omega
      clear hp
      have hup2 : ¬ ms[j].val < ms[p].val := by have e := HP.out; subst e; have := HF.out.up p hlt (by omega); omega
      obtain ⟨b, o, rfl, hbb, x1, x2⟩ := hsg.out.at_ hlt
      obtain ⟨b', o', hbo, hbb', x3, x4⟩ := hsg.out.at_ (k := p) hpl
      cases hbo
      have hi1 : (j : Int) < (ms.length : Int) := by omega
      have hi2 : (p : Int) < (ms.length : Int) := by omega
      have hi0 : (0 : Int) ≤ (p : Int) := by omega
      have hi3 : (0 : Int) ≤ (j : Int) := by omega
      have hw : IntKind.i64.wrap ((j : Int) - 1) = (p : Int) := by have := HP.out; rw [IntKind.wrap_i64]; omega
      go_wp2
      go_quiet (fail)
      go_wp2
      go_roundw
      case rel => exact ⟨j + 1, by omega, by go_num, Lib.hid (by omega), Lib.hid (below_drewN hbel.out _), Lib.hid y1, Lib.hid y2, Lib.hid (hsa.out.drewN _), Lib.hid (hsg.out.drewN _)⟩
      case measure => simp [intOf]; omega
    · have hsl : ¬ (j : Int) < (ms.length : Int) := by omega
      obtain ⟨w20, hwn⟩ : ∃ W : World, W = wr := ⟨_, rfl⟩
      subst hwn
      have HB_20 := hbel
      have ba_20 := y1
      have bg_20 := y2
      have Sa_20 := hsa
      have Sg_20 := hsg
      clear hbel y1 y2 hsa hsg
      have HSAME := Lib.hid HF.out.same
      have HTWO : Hid (mSort ms = ms) := Lib.hid (by unfold mSort; rw [if_pos HF.out.ve]; exact HF.out.two)
      have hany : ∀ t ∈ mMembers ms, (mMembers dsa).any (hT t) = true := fun t ht => by
        rw [mMembers_yes HF.out.ve] at ht
        rw [mMembers_yes HV.out, List.any_eq_true]
        exact ⟨t, HF.out.mem t ht, hT_iff.2 rfl⟩
      have hlen : (mMembers ms).length = (mMembers dsa).length := by rw [mMembers_yes HF.out.ve, mMembers_yes HV.out, List.length_map, List.length_map]; exact HF.out.len
      have hnl : (mMembers dsa).length ≤ 25 := by rw [mMembers_yes HV.out, List.length_map]; exact Nat.le_trans mems_len hn
      have hok1 := mMembers_ok OKM.out
      have hok2 := mMembers_ok HOKa.out
      generalize hg1 : mMembers ms = ns at hany hlen hok1
      generalize hg2 : mMembers dsa = ts at hany hlen hnl hok2
      have HM1 := Lib.hid hg1
      have HM2 := Lib.hid hg2
      have HANY := Lib.hid hany
      have HO1 := Lib.hid hok1
      have HO2 := Lib.hid hok2
      have hnl2 : ns.length ≤ 25 := by omega
      have hlq : ((ns.length : Int) == (ts.length : Int)) = true := by rw [beq_iff_eq]; omega
      clear hg1 hg2 hany hok1 hok2 hlen hcg hca HF
      go_wp2_with fail
      refine (implMembersOf_v ms _ _ _ _ Sg_20.out HM1.out).mono ?_
      rintro e w21 ⟨An, cn, rfl, ho, hb⟩
      have ba_21 := keep1 hb ba_20
      have bg_21 := keep1 hb bg_20
      have Sa_21 := Lib.hid ((Sa_20.out.below hb).call hb.size)
      have Sg_21 := Lib.hid ((Sg_20.out.below hb).call hb.size)
      have HB_21 : Hid (Below w.heap.size w w21) := Lib.hid (HB_20.out.trans (hb.mono HB_20.out.size))
      have Xn_21 := Lib.hid (ss_of_own ho HO1.out)
      clear hb ho ba_20 bg_20 Sa_20 Sg_20 HB_20
      go_wp2_with fail
      go_loopw [7] (fun i wr => ∃ (k : Nat), k ≤ ns.length ∧ i = .int .i64 k ∧ Hid (Below w.heap.size w wr) ∧ Hid (wr.cell? ⟨w1.heap.size, 0, none⟩ = some (.slice Aa dsa.length ca)) ∧ Hid (wr.cell? ⟨w3.heap.size, 0, none⟩ = some (.slice Ag ms.length cg)) ∧ Hid (SD wr wr.heap.size Aa dsa.length ca dsa) ∧ Hid (SD wr wr.heap.size Ag ms.length cg ms) ∧ Hid (SS wr wr.heap.size An ns.length cn ns)) (fun i _ => ns.length - (intOf i).toNat)
      case atStart => exact ⟨0, Nat.zero_le _, rfl, HB_21, Lib.hid ba_21, Lib.hid bg_21, Sa_21, Sg_21, Xn_21⟩
      case round =>
        obtain ⟨k, hk, rfl, hbel, hca, hcg, hsa, hsg, hxn⟩ := hrel
        clear ba_21 bg_21 HB_21 Sa_21 Sg_21 Xn_21
        have y1 := hca.out
        have y2 := hcg.out
        clear hca hcg
        by_cases hlt : k < ns.length
        · obtain ⟨b, o, rfl, hbb, x1⟩ := hxn.out.at_ hlt
          have HT := Lib.hid (HANY.out _ (List.getElem_mem hlt))
          generalize ns[k] = t at *
          have hi1 : (k : Int) < (ns.length : Int) := by omega
          have hi0 : (0 : Int) ≤ (k : Int) := by omega
          obtain ⟨w40, hwn⟩ : ∃ W : World, W = wr := ⟨_, rfl⟩
          subst hwn
          have HB_40 := hbel
          have ba_40 := y1
          have bg_40 := y2
          have Sa_40 := hsa
          have Sg_40 := hsg
          have Xn_40 := hxn
          have x1_40 := x1
          clear hbel y1 y2 hsa hsg hxn x1
          go_wp2_with fail
          go_region_held3 (fun w' => w'.cell? ⟨w1.heap.size, 0, none⟩ = some (.slice Aa dsa.length ca) ∧ w'.cell? ⟨b, o + k, none⟩ = some (.string t))
            (first | go_keep | exact ⟨ba_40, x1_40⟩ | exact ⟨ba_41, x1_41⟩ | exact ⟨ba_42, x1_42⟩)
            (first
              | (go_at_call 50; refine (implMembersOf_v dsa _ _ _ _ (Sa_40.out.drewN 1) HM2.out).mono ?_; rintro e w41 ⟨At, ct, rfl, ho, hb⟩; replace hb : Below w40.heap.size w40 w41 := (by first | exact hb | exact undrew hb); have ba_41 := keep1 hb ba_40; have bg_41 := keep1 hb bg_40; have x1_41 := keep1 hb x1_40; have Sa_41 := Lib.hid ((Sa_40.out.below hb).call hb.size); have Sg_41 := Lib.hid ((Sg_40.out.below hb).call hb.size); have Xn_41 := Lib.hid ((Xn_40.out.below hb).call hb.size); have HB_41 : Hid (Below w.heap.size w w41) := Lib.hid (HB_40.out.trans (hb.mono HB_40.out.size)); have Xt_41 := Lib.hid (ss_of_own ho HO2.out); clear ho; clear hb)
              | (go_at_call 51; refine (hasText_any ts _ _ _ _ _ Xt_41.out HT.out).mono ?_; rintro e w42 ⟨rfl, hb⟩; have ba_42 := keep1 hb ba_41; have bg_42 := keep1 hb bg_41; have x1_42 := keep1 hb x1_41; have Sa_42 := Lib.hid ((Sa_41.out.below hb).call hb.size); have Sg_42 := Lib.hid ((Sg_41.out.below hb).call hb.size); have Xn_42 := Lib.hid ((Xn_41.out.below hb).call hb.size); have Xt_42 := Lib.hid ((Xt_41.out.below hb).call hb.size); have HB_42 : Hid (Below w.heap.size w w42) := Lib.hid (HB_41.out.trans (hb.mono HB_41.out.size)); clear hb))
          go_wp2
          go_roundw
          case rel => exact ⟨k + 1, by omega, by go_num, HB_42, Lib.hid ba_42, Lib.hid bg_42, Sa_42, Sg_42, Xn_42⟩
          case measure => simp [intOf]; omega
        · obtain rfl : k = ns.length := by omega
          clear hxn
          obtain ⟨w40, hwn⟩ : ∃ W : World, W = wr := ⟨_, rfl⟩
          subst hwn
          have HB_40 := hbel
          have ba_40 := y1
          have bg_40 := y2
          have Sa_40 := hsa
          have Sg_40 := hsg
          clear hbel y1 y2 hsa hsg
          have HIM2 : Hid (∀ (A : Option Addr) (n c : Nat) (w : World), SD w w.heap.size A n c ms → Calls Try.prog 43 #[.agg #[.slice A n c]] w (EnumE ms w)) := Lib.hid fun A n c w h => (by have := implSort_any ms A n c w h; rw [HTWO.out] at this; exact this)
          unfold EnumE at HIM2
          go_wp2_with fail
          go_region_held3 (fun w' => w'.cell? ⟨w1.heap.size, 0, none⟩ = some (.slice Aa dsa.length ca) ∧ w'.cell? ⟨w3.heap.size, 0, none⟩ = some (.slice Ag ms.length cg))
            (first | go_keep | exact ⟨ba_40, bg_40⟩ | exact ⟨ba_41, bg_41⟩ | exact ⟨ba_42, bg_42⟩ | exact ⟨ba_43, bg_43⟩ | exact ⟨ba_44, bg_44⟩)
            (first
              | (go_at_call 30; refine (implSame_v ms dsa _ _ _ _ _ _ _ (Sg_40.out.drewN 1) (Sa_40.out.drewN 1) HSAME.out).mono ?_; rintro e w41 ⟨rfl, hb⟩; replace hb : Below w40.heap.size w40 w41 := (by first | exact hb | exact undrew hb); have ba_41 := keep1 hb ba_40; have bg_41 := keep1 hb bg_40; have Sa_41 := Lib.hid ((Sa_40.out.below hb).call hb.size); have Sg_41 := Lib.hid ((Sg_40.out.below hb).call hb.size); have HB_41 : Hid (Below w.heap.size w w41) := Lib.hid (HB_40.out.trans (hb.mono HB_40.out.size)); clear hb)
              | (go_at_call 43; refine (HIM2.out _ _ _ _ Sg_41.out).mono ?_; rintro e w42 ⟨Ah, ch, rfl, ho, hb⟩; have ba_42 := keep1 hb ba_41; have bg_42 := keep1 hb bg_41; have Sa_42 := Lib.hid ((Sa_41.out.below hb).call hb.size); have Sg_42 := Lib.hid ((Sg_41.out.below hb).call hb.size); have HB_42 : Hid (Below w.heap.size w w42) := Lib.hid (HB_41.out.trans (hb.mono HB_41.out.size)); have Sh_42 := Lib.hid (sd_of_own ho OKM.out); clear ho; clear hb)
              | (go_at_call 18; refine (equalEnum_any ms _ _ _ _ _ _ _ Sh_42.out Sg_42.out).mono ?_; rintro e w43 ⟨rfl, hb⟩; have ba_43 := keep1 hb ba_42; have bg_43 := keep1 hb bg_42; have Sa_43 := Lib.hid ((Sa_42.out.below hb).call hb.size); have Sg_43 := Lib.hid ((Sg_42.out.below hb).call hb.size); have Sh_43 := Lib.hid ((Sh_42.out.below hb).call hb.size); have HB_43 : Hid (Below w.heap.size w w43) := Lib.hid (HB_42.out.trans (hb.mono HB_42.out.size)); clear hb)
              | (go_at_call 50; refine (implMembersOf_v dsa _ _ _ _ Sa_43.out HM2.out).mono ?_; rintro e w44 ⟨At, ct, rfl, ho, hb⟩; have ba_44 := keep1 hb ba_43; have bg_44 := keep1 hb bg_43; have Sa_44 := Lib.hid ((Sa_43.out.below hb).call hb.size); have Sg_44 := Lib.hid ((Sg_43.out.below hb).call hb.size); have Sh_44 := Lib.hid ((Sh_43.out.below hb).call hb.size); have HB_44 : Hid (Below w.heap.size w w44) := Lib.hid (HB_43.out.trans (hb.mono HB_43.out.size)); clear ho; clear hb))
          go_wp2
          go_ret
          exact ⟨rfl, HB_44.out⟩

theorem lifted (os : Os) (started : os.Started) (H : Type) (enc : TypeId × Value → H) :
    ReturnsInHanded {} Try.checked os 13 .any (Rows.fnSortEnumSpec.pre6 enc Try.prog Try.f13 Rows.fnSortEnumRow.domain false) (Rows.fnSortEnumSpec.post enc Try.prog Try.f13 false true false false) := by
  refine returnsInHanded_of_change (C := Try.checked) own started (by kernel_rfl) Try.func13
    (ChangeSpec.witness6 (enc := enc) (C := Try.checked) false ⟨#[], #[.slice none 0 0], []⟩ 8 (by kernel_rfl) (by kernel_rfl) (by kernel_rfl) (by kernel_rfl)) ?_
  intro W base args ds gs before hval0 hW hcnd _
  have hval : ∀ (j : Nat) t v, Try.f13.params[j]? = some t → args[j]? = some v → Value.okWide Try.prog W .any base t v := hval0
  have hW' := hW
  obtain ⟨p, q, hA0, hV, rfl, hfz, hnd⟩ := hW
  have hA : DataW.TrodAll enc Try.prog W 0 (fun _ => true) true Try.f13.params.toList args.toList ds p := hA0
  rw [Try.params13] at hA hval
  obtain ⟨v0, vs0, d0, ds0, p0, q0, hargs, rfl, rfl, h0, r0⟩ := trodAll_cons hA
  obtain ⟨rfl, rfl, rfl⟩ := trodAll_nil r0
  obtain rfl : args = #[v0] := by cases args; simp_all
  obtain ⟨rfl, rfl⟩ := trodVars_none hV
  have k0 := h0
  have lt0 : ∀ x ∈ p0, x.block < W.heap.size := by obtain ⟨m, hm⟩ := k0; exact DataW.trod_lt m _ _ _ hm
  obtain ⟨A0, n0, c0, l0, rfl, w0⟩ := open_code (hval 0 22 v0 rfl rfl) h0
  clear hA0 hval0
  refine (walk A0 n0 c0 l0 W w0).mono fun e W' ⟨he, bel⟩ => ?_
  subst he
  exact ⟨_, rfl, _, _, _, [], _, [], hW', trodAll_mk1 (shut_bool Try.underlying4 _), (trodAll_cons_mk (Below.trod laidOut (by kernel_rfl) (of_decide_eq_true (by kernel_rfl)) k0 bel lt0) trodAll_mk0), rfl, bel.frame _, fun h => by cases h⟩

theorem over : Rows.fnSortEnumRow.holds Try.pinned (OpenSpec.ofChange Rows.fnSortEnumSpec) :=
  OpenClaim.holds_of_wide 13 Try.f13 rfl rfl rfl rfl rfl rfl rfl ⟨rfl, rfl, rfl, rfl, rfl⟩ rfl rfl rfl rfl rfl (by kernel_rfl) Try.func13 (by kernel_rfl)
    (of_decide_eq_true (by kernel_rfl)) (by unfold Func.isWrapper; first | (rw [if_pos (by decide +kernel)]; kernel_rfl) | (rw [if_neg (by decide +kernel)]; exact ⟨rfl, rfl⟩))
    (fun os started H enc _ => lifted os started H enc)

theorem proved : Rows.FnSortEnumSaid := over
end Go.Proofs.Ytiklgghbkkmnaaa.fnSortEnum
