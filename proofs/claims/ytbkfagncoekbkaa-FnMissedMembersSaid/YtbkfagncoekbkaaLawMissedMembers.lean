/-
For every code the law of what is missed returns true: the program's MissedMembers answers as its model, what it answers are members that no name of the list is a name of, and with them nothing is missed.
Conditions: none.
-/
import Derived.Test.YtbkfagncoekbkaaGenU
import Derived.Test.YtbkfagncoekbkaaOpenC
import Derived.Test.YtbkfagncoekbkaaLBase
import Derived.Test.YtbkfagncoekbkaaLHelp
import Derived.Test.YtbkfagncoekbkaaLMiss
import Derived.Test.YtbkfagncoekbkaaMissI
import Derived.Test.YtbkfagncoekbkaaMissS
import Derived.Test.YtbkfagncoekbkaaEdit2
import Derived.Test.YtbkfagncoekbkaaBaseB
namespace Go.Proofs.Ytbkfagncoekbkaa.fnMissedMembers
open Go.ChangeShapes Go.WideShapes Go.ChangeAt Go.RowKit
open Go.ChangeMaps (open_string shut_string)
set_option linter.unusedVariables false
set_option linter.unusedSimpArgs false
set_option maxRecDepth 100000

set_option maxHeartbeats 16000000 in
theorem walk (A : Option Addr) (n c : Nat) (zs : List Int) (w : World) (h : SB w w.heap.size A n c zs) :
    Calls Try.prog 9 #[.slice A n c] w fun e w' => e = .returned (.bool true) ∧ Below w.heap.size w w' := by
  have hm := h.max
  have hcap := h.cap
  unfold maxLen at hm
  have HS0 := Lib.hid h
  clear h
  by_cases hbig : 1048576 < (n : Int)
  · go_enter Try.func9, Try.ntmps9
    go_wp2
    go_ret
    exact ⟨rfl, Below.refl _ _⟩
  go_enter Try.func9, Try.ntmps9
  go_wp2_with fail
  refine (drawMissedMembers_s A n c zs _ HS0.out).mono ?_
  rintro e w1 ⟨Aa, ca, dsa, As, cs, ss, rfl, hna, hsma, hs3, hzz, hsa, hss, hb⟩
  have HB_1 := Lib.hid hb
  have Sa_1 := Lib.hid hsa
  have HSMa := Lib.hid hsma
  have HOKa : Hid (∀ d ∈ dsa, d.ok) := Lib.hid (fun d hd => small_ok (hsma d hd))
  have Ss_1 := Lib.hid hss
  clear hb hsa hsma hss
  obtain ⟨w2, hw⟩ : ∃ W : World, W = (w1.alloc (.cells #[.slice Aa dsa.length ca] 58)) := ⟨_, rfl⟩
  have hb : Below w1.heap.size w1 w2 := by rw [hw]; exact ((Below.refl _ _).alloc (by first | exact Nat.le_refl _ | (simp; done) | (simp; omega)) _)
  have Sa_2 := Lib.hid ((Sa_1.out.below hb).call hb.size)
  have Ss_2 := Lib.hid ((Ss_1.out.below hb).call hb.size)
  have HB_2 : Hid (Below w.heap.size w w2) := Lib.hid (HB_1.out.trans (hb.mono HB_1.out.size))
  have ba_2 : w2.cell? ⟨w1.heap.size, 0, none⟩ = some (.slice Aa dsa.length ca) := by rw [hw]; simp [go_sem]
  have lf_ba : (w1.alloc (.cells #[.slice Aa dsa.length ca] 58)).cell? ⟨w1.heap.size, 0, none⟩ = some (.slice Aa dsa.length ca) := by rw [← hw]; exact ba_2
  have HW2 : Hid ((w1.alloc (.cells #[.slice Aa dsa.length ca] 58)) = w2) := Lib.hid hw.symm
  clear hb hw Sa_1 Ss_1 HB_1
  obtain ⟨os, hos⟩ : ∃ os, mMissM dsa ss = os := ⟨_, rfl⟩
  have ho12 : os.length ≤ 12 := by rw [← hos]; exact mMissM_len _ _
  have OKO : Hid (∀ s ∈ os, s.size ≤ maxLen) := Lib.hid (by rw [← hos]; exact mMissM_ok HOKa.out)
  have HIM : Hid (∀ (A : Option Addr) (n c : Nat) (w : World) (As : Option Addr) (q cs : Nat), SD w w.heap.size A n c dsa → SS w w.heap.size As q cs ss → n ≤ 1048576 → Calls Try.prog 45 #[.agg #[.slice A n c], .slice As q cs] w (StrsP os w)) := Lib.hid (by rw [← hos]; exact fun A n c w As q cs h1 h2 h3 => implMiss_any dsa ss A n c w h1 As q cs h2 h3)
  have HSP : Hid (∀ (A : Option Addr) (n c : Nat) (w : World) (As : Option Addr) (q cs : Nat), SD w w.heap.size A n c dsa → SS w w.heap.size As q cs ss → n ≤ 1048576 → q ≤ 1048576 → Calls Try.prog 46 #[.agg #[.slice A n c], .slice As q cs] w (StrsP os w)) := Lib.hid (by rw [← hos]; exact fun A n c w As q cs h1 h2 h3 h4 => specMiss_any dsa ss A n c w h1 As q cs h2 h3 h4)
  unfold StrsP at HIM HSP
  have HLAW : Hid (0 < os.length → MissL dsa ss os) := Lib.hid (by rw [← hos]; exact miss_law)
  have HZZ := Lib.hid hzz
  clear hos hzz
  go_wp2_with fail
  rw [HW2.out]
  clear lf_ba
  refine (HIM.out _ _ _ _ _ _ _ Sa_2.out Ss_2.out (by omega)).mono ?_
  rintro e w3 ⟨Ao, co, rfl, ho, hb⟩
  have ba_3 := keep1 hb ba_2
  have Sa_3 := Lib.hid ((Sa_2.out.below hb).call hb.size)
  have Ss_3 := Lib.hid ((Ss_2.out.below hb).call hb.size)
  have HB_3 : Hid (Below w.heap.size w w3) := Lib.hid (HB_2.out.trans (hb.mono HB_2.out.size))
  have So_3 := Lib.hid (ss_of_own ho OKO.out)
  clear hb ho ba_2 Sa_2 Ss_2 HB_2
  by_cases hz : os.length = 0
  · have hz1 : ((os.length : Int) == 0) = true := by rw [beq_iff_eq]; omega
    clear hz
    go_wp2_with fail
    refine (HSP.out _ _ _ _ _ _ _ Sa_3.out Ss_3.out (by omega) (by omega)).mono ?_
    rintro e w4 ⟨Aw, cw, rfl, ho, hb⟩
    have ba_4 := keep1 hb ba_3
    have Sa_4 := Lib.hid ((Sa_3.out.below hb).call hb.size)
    have Ss_4 := Lib.hid ((Ss_3.out.below hb).call hb.size)
    have So_4 := Lib.hid ((So_3.out.below hb).call hb.size)
    have HB_4 : Hid (Below w.heap.size w w4) := Lib.hid (HB_3.out.trans (hb.mono HB_3.out.size))
    have Sw_4 := Lib.hid (ss_of_own ho OKO.out)
    clear hb ho ba_3 Sa_3 Ss_3 So_3 HB_3
    go_wp2_with fail
    refine (equalTexts_any os _ _ _ _ _ _ _ So_4.out Sw_4.out).mono ?_
    rintro e w5 ⟨rfl, hb⟩
    have ba_5 := keep1 hb ba_4
    have Sa_5 := Lib.hid ((Sa_4.out.below hb).call hb.size)
    have Ss_5 := Lib.hid ((Ss_4.out.below hb).call hb.size)
    have So_5 := Lib.hid ((So_4.out.below hb).call hb.size)
    have Sw_5 := Lib.hid ((Sw_4.out.below hb).call hb.size)
    have HB_5 : Hid (Below w.heap.size w w5) := Lib.hid (HB_4.out.trans (hb.mono HB_4.out.size))
    clear hb  ba_4 Sa_4 Ss_4 So_4 Sw_4 HB_4
    clear Sw_5
    go_wp2_with fail
    refine (HSP.out _ _ _ _ _ _ _ Sa_5.out Ss_5.out (by omega) (by omega)).mono ?_
    rintro e w6 ⟨Av, cv, rfl, ho, hb⟩
    have ba_6 := keep1 hb ba_5
    have Sa_6 := Lib.hid ((Sa_5.out.below hb).call hb.size)
    have Ss_6 := Lib.hid ((Ss_5.out.below hb).call hb.size)
    have So_6 := Lib.hid ((So_5.out.below hb).call hb.size)
    have HB_6 : Hid (Below w.heap.size w w6) := Lib.hid (HB_5.out.trans (hb.mono HB_5.out.size))
    have Sv_6 := Lib.hid (ss_of_own ho OKO.out)
    clear hb ho ba_5 Sa_5 Ss_5 So_5 HB_5
    go_wp2_with fail
    refine (equalTexts_any os _ _ _ _ _ _ _ So_6.out Sv_6.out).mono ?_
    rintro e w7 ⟨rfl, hb⟩
    have ba_7 := keep1 hb ba_6
    have Sa_7 := Lib.hid ((Sa_6.out.below hb).call hb.size)
    have Ss_7 := Lib.hid ((Ss_6.out.below hb).call hb.size)
    have So_7 := Lib.hid ((So_6.out.below hb).call hb.size)
    have Sv_7 := Lib.hid ((Sv_6.out.below hb).call hb.size)
    have HB_7 : Hid (Below w.heap.size w w7) := Lib.hid (HB_6.out.trans (hb.mono HB_6.out.size))
    clear hb  ba_6 Sa_6 Ss_6 So_6 Sv_6 HB_6
    go_wp2
    go_ret
    exact ⟨by first | rfl | kernel_rfl | (go_simp; done), HB_7.out⟩
  have hz1 : ((os.length : Int) == 0) = false := by rw [beq_eq_false_iff_ne]; omega
  have hF := HLAW.out (by omega)
  have HVE := Lib.hid hF.ve
  have HAT := Lib.hid hF.at_
  have HNO := Lib.hid hF.none_
  obtain ⟨ns, hns⟩ : ∃ ns, mMembers dsa = ns := ⟨_, rfl⟩
  rw [hns] at HAT
  have HNS := Lib.hid hns
  have OKN : Hid (∀ s ∈ ns, s.size ≤ maxLen) := Lib.hid (by rw [← hns]; exact mMembers_ok HOKa.out)
  clear hns hz hF HLAW
  go_wp2_with fail
  refine (HSP.out _ _ _ _ _ _ _ Sa_3.out Ss_3.out (by omega) (by omega)).mono ?_
  rintro e w4 ⟨Aw, cw, rfl, ho, hb⟩
  have ba_4 := keep1 hb ba_3
  have Sa_4 := Lib.hid ((Sa_3.out.below hb).call hb.size)
  have Ss_4 := Lib.hid ((Ss_3.out.below hb).call hb.size)
  have So_4 := Lib.hid ((So_3.out.below hb).call hb.size)
  have HB_4 : Hid (Below w.heap.size w w4) := Lib.hid (HB_3.out.trans (hb.mono HB_3.out.size))
  have Sw_4 := Lib.hid (ss_of_own ho OKO.out)
  clear hb ho ba_3 Sa_3 Ss_3 So_3 HB_3
  go_wp2_with fail
  refine (equalTexts_any os _ _ _ _ _ _ _ So_4.out Sw_4.out).mono ?_
  rintro e w5 ⟨rfl, hb⟩
  have ba_5 := keep1 hb ba_4
  have Sa_5 := Lib.hid ((Sa_4.out.below hb).call hb.size)
  have Ss_5 := Lib.hid ((Ss_4.out.below hb).call hb.size)
  have So_5 := Lib.hid ((So_4.out.below hb).call hb.size)
  have Sw_5 := Lib.hid ((Sw_4.out.below hb).call hb.size)
  have HB_5 : Hid (Below w.heap.size w w5) := Lib.hid (HB_4.out.trans (hb.mono HB_4.out.size))
  clear hb  ba_4 Sa_4 Ss_4 So_4 Sw_4 HB_4
  clear Sw_5
  go_wp2_with fail
  go_loopw [6] (fun i wr => ∃ (k : Nat), k ≤ os.length ∧ i = .int .i64 k ∧ Hid (Below w.heap.size w wr) ∧ Hid (wr.cell? ⟨w1.heap.size, 0, none⟩ = some (.slice Aa dsa.length ca)) ∧ Hid (SD wr wr.heap.size Aa dsa.length ca dsa) ∧ Hid (SS wr wr.heap.size As ss.length cs ss) ∧ Hid (SS wr wr.heap.size Ao os.length co os)) (fun i _ => os.length - (intOf i).toNat)
  case atStart => exact ⟨0, Nat.zero_le _, rfl, HB_5, Lib.hid ba_5, Sa_5, Ss_5, So_5⟩
  case round =>
    obtain ⟨k, hk, rfl, hbel, hca, hsa, hss, hso⟩ := hrel
    clear ba_5 HB_5 Sa_5 Ss_5 So_5
    have y1 := hca.out
    clear hca
    by_cases hlt : k < os.length
    · obtain ⟨b, o, hA, hbb, x1⟩ := hso.out.at_ hlt
      subst hA
      obtain ⟨j, hj, ht, hfj, han, hap⟩ := HAT.out k hlt
      have HFJ := Lib.hid hfj
      have HAN := Lib.hid han
      have HAP := Lib.hid hap
      rw [ht] at x1
      clear ht hfj han hap
      generalize dsa[j].name = t at *
      generalize hvj : dsa[j].val = vj at *
      have HVJ := Lib.hid hvj
      clear hvj
      have hi1 : (k : Int) < (os.length : Int) := by omega
      have hi0 : (0 : Int) ≤ (k : Int) := by omega
      obtain ⟨w40, hwn⟩ : ∃ W : World, W = wr := ⟨_, rfl⟩
      subst hwn
      have HB_40 := hbel
      have ba_40 := y1
      have Sa_40 := hsa
      have Ss_40 := hss
      have So_40 := hso
      have x1_40 := x1
      clear hbel y1 hsa hss hso x1
      go_wp2_with fail
      go_region_held3 (fun w' => w'.cell? ⟨w1.heap.size, 0, none⟩ = some (.slice Aa dsa.length ca) ∧ w'.cell? ⟨b, o + k, none⟩ = some (.string t))
        (first | go_keep | exact ⟨ba_40, x1_40⟩ | exact ⟨ba_41, x1_41⟩)
        (first
          | (go_at_call 47; refine (implValueOf_yes dsa t _ _ _ _ (Sa_40.out.drewN 1) HVE.out j hj HFJ.out).mono ?_; rintro e w41 ⟨rfl, hb⟩; replace hb : Below w40.heap.size w40 w41 := (by first | exact hb | exact undrew hb); have ba_41 := keep1 hb ba_40; have x1_41 := keep1 hb x1_40; have Sa_41 := Lib.hid ((Sa_40.out.below hb).call hb.size); have Ss_41 := Lib.hid ((Ss_40.out.below hb).call hb.size); have So_41 := Lib.hid ((So_40.out.below hb).call hb.size); have HB_41 : Hid (Below w.heap.size w w41) := Lib.hid (HB_40.out.trans (hb.mono HB_40.out.size)); clear hb))
      rw [HVJ.out]
      go_wp2_with fail
      go_region_held3 (fun w' => w'.cell? ⟨w1.heap.size, 0, none⟩ = some (.slice Aa dsa.length ca) ∧ w'.cell? ⟨b, o + k, none⟩ = some (.string t))
        (first | go_keep | exact ⟨ba_41, x1_41⟩ | exact ⟨ba_42, x1_42⟩ | exact ⟨ba_43, x1_43⟩)
        (first
          | (go_at_call 48; refine (implMembersOf_v dsa _ _ _ _ (Sa_41.out.drewN 1) HNS.out).mono ?_; rintro e w42 ⟨An, cn, rfl, ho, hb⟩; replace hb : Below w41.heap.size w41 w42 := (by first | exact hb | exact undrew hb); have ba_42 := keep1 hb ba_41; have x1_42 := keep1 hb x1_41; have Sa_42 := Lib.hid ((Sa_41.out.below hb).call hb.size); have Ss_42 := Lib.hid ((Ss_41.out.below hb).call hb.size); have So_42 := Lib.hid ((So_41.out.below hb).call hb.size); have HB_42 : Hid (Below w.heap.size w w42) := Lib.hid (HB_41.out.trans (hb.mono HB_41.out.size)); have Sn_42 := Lib.hid (ss_of_own ho OKN.out); clear ho; clear hb)
          | (go_at_call 35; refine (hasText_any ns t _ _ _ _ Sn_42.out HAN.out).mono ?_; rintro e w43 ⟨rfl, hb⟩; have ba_43 := keep1 hb ba_42; have x1_43 := keep1 hb x1_42; have Sa_43 := Lib.hid ((Sa_42.out.below hb).call hb.size); have Ss_43 := Lib.hid ((Ss_42.out.below hb).call hb.size); have So_43 := Lib.hid ((So_42.out.below hb).call hb.size); have Sn_43 := Lib.hid ((Sn_42.out.below hb).call hb.size); have HB_43 : Hid (Below w.heap.size w w43) := Lib.hid (HB_42.out.trans (hb.mono HB_42.out.size)); clear hb))
      clear Sn_43
      go_wp2_with fail
      go_loopw [9] (fun i wq => ∃ (m : Nat), m ≤ ss.length ∧ i = .int .i64 m ∧ Hid (Below w43.heap.size w43 wq)) (fun i _ => ss.length - (intOf i).toNat)
      case atStart => exact ⟨0, Nat.zero_le _, rfl, Lib.hid (Below.refl _ _)⟩
      case round =>
        obtain ⟨m, hm2, rfl, hbq⟩ := hrel
        have q1 := Lib.hid ((Sa_43.out.below hbq.out).call hbq.out.size)
        have q2 := Lib.hid ((Ss_43.out.below hbq.out).call hbq.out.size)
        have q3 := keep1 hbq.out ba_43
        by_cases hlt2 : m < ss.length
        · obtain ⟨b2, o2, hA2, hbb2, x2⟩ := q2.out.at_ hlt2
          subst hA2
          obtain ⟨r, hr, hfr, hne⟩ := HAP.out m hlt2
          have HFR := Lib.hid hfr
          clear hfr
          generalize ss[m] = t2 at *
          generalize hvr : dsa[r].val = vr at *
          have HVR := Lib.hid hvr
          clear hvr
          have hne2 : (vr == vj) = false := beq_eq_false_iff_ne.2 hne
          have hj1 : (m : Int) < (ss.length : Int) := by omega
          have hj0 : (0 : Int) ≤ (m : Int) := by omega
          obtain ⟨w60, hwn⟩ : ∃ W : World, W = wr := ⟨_, rfl⟩
          subst hwn
          have HB_60 : Hid (Below w.heap.size w w60) := Lib.hid (HB_43.out.trans (hbq.out.mono HB_43.out.size))
          have ba_60 := q3
          have x2_60 := x2
          have Sa_60 := q1
          clear q1 q2 q3 x2
          go_wp2_with fail
          go_region_held3 (fun w' => w'.cell? ⟨w1.heap.size, 0, none⟩ = some (.slice Aa dsa.length ca) ∧ w'.cell? ⟨b2, o2 + m, none⟩ = some (.string t2))
            (first | go_keep | exact ⟨ba_60, x2_60⟩ | exact ⟨ba_61, x2_61⟩)
            (first
              | (go_at_call 47; refine (implValueOf_yes dsa t2 _ _ _ _ (Sa_60.out.drewN 1) HVE.out r hr HFR.out).mono ?_; rintro e w61 ⟨rfl, hb⟩; replace hb : Below w60.heap.size w60 w61 := (by first | exact hb | exact undrew hb); have ba_61 := keep1 hb ba_60; have x2_61 := keep1 hb x2_60; have Sa_61 := Lib.hid ((Sa_60.out.below hb).call hb.size); have HB_61 : Hid (Below w.heap.size w w61) := Lib.hid (HB_60.out.trans (hb.mono HB_60.out.size)); have HBQ := Lib.hid (hbq.out.trans (hb.mono hbq.out.size)); clear hb))
          rw [HVR.out]
          go_wp2
          go_roundw
          case rel => exact ⟨m + 1, by omega, by go_num, HBQ⟩
          case measure => simp [intOf]; omega
        · obtain rfl : m = ss.length := by omega
          have hj9 : ¬ (ss.length : Int) < (ss.length : Int) := by omega
          go_wp2
          go_roundw
          case rel => exact ⟨k + 1, by omega, by go_num, Lib.hid (HB_43.out.trans (hbq.out.mono HB_43.out.size)), Lib.hid q3, q1, q2, Lib.hid ((So_43.out.below hbq.out).call hbq.out.size)⟩
          case measure => simp [intOf]; omega
    · obtain rfl : k = os.length := by omega
      have hi9 : ¬ (os.length : Int) < (os.length : Int) := by omega
      obtain ⟨w40, hwn⟩ : ∃ W : World, W = wr := ⟨_, rfl⟩
      subst hwn
      have HB_40 := hbel
      have ba_40 := y1
      have Sa_40 := hsa
      have Ss_40 := hss
      have So_40 := hso
      clear hbel y1 hsa hss hso
      have HM2 : Hid (∀ (A : Option Addr) (n c : Nat) (w : World) (As : Option Addr) (q cs : Nat), SD w w.heap.size A n c dsa → SS w w.heap.size As q cs (ss ++ os) → n ≤ 1048576 → Calls Try.prog 45 #[.agg #[.slice A n c], .slice As q cs] w (StrsP [] w)) := Lib.hid (by rw [← HNO.out]; exact fun A n c w As q cs h1 h2 h3 => implMiss_any dsa (ss ++ os) A n c w h1 As q cs h2 h3)
      unfold StrsP at HM2
      have OKL : Hid (∀ s ∈ ss ++ os, s.size ≤ maxLen) := Lib.hid (fun s hs => by rcases List.mem_append.1 hs with h | h; exact Ss_40.out.ok s h; exact OKO.out s h)
      go_wp2_with fail
      obtain ⟨i0, hi, hz0, hz1, hz2⟩ := info_parts info_S
      have HI := Lib.hid (And.intro hi (And.intro hz0 (And.intro hz1 hz2)))
      clear hi hz0 hz1 hz2
      have HO0 : Hid ((w40.alloc (.cells #[] 9)).ownsRow w40.heap.size 9 1 (.slice (some ⟨w40.heap.size, 0, none⟩) 0 0) 0 []) := Lib.hid (World.ownsRow_made w40 #[] 0 (Nat.le_refl _) (by unfold maxLen; omega) rfl)
      have hbA : Below w40.heap.size w40 (w40.alloc (.cells #[] 9)) := (Below.refl _ _).alloc (Nat.le_refl _) _
      go_region_held3 (fun w' => w'.cell? ⟨w1.heap.size, 0, none⟩ = some (.slice Aa dsa.length ca) ∧ Below w40.heap.size w40 w')
        (first | exact ⟨ba_40, Below.refl _ _⟩ | exact ⟨ba_40, (Below.refl _ _).drew⟩ | exact ⟨keep1 hbA ba_40, hbA⟩ | exact ⟨keep1 hbA ba_40, hbA.drew⟩ | exact ⟨ba_80, hb80⟩ | exact ⟨ba_81, hb81⟩ | exact ⟨ba_82, hb83⟩)
        (first
          | (refine step_app_src rfl _ _ _ rfl w40.heap.size _ i0 _ 1 16 Try.underlying42 HI.out rfl (by omega) (by omega) _ (0) _ rfl HO0.out _ _ _ _ rfl ((Ss_40.out.below hbA).sl.src (fun _ => rfl)) (one_S _) (by omega) (by first | exact hbA.size | (simp; done) | (simp; omega)) ?_; intro v' w80 ho80 hg80; rw [Nat.zero_add, List.nil_append] at ho80; obtain ⟨A80, c80, rfl⟩ := own_form ho80; have hb80 : Below w40.heap.size w40 w80 := (by first | exact hbA.drew.grown hg80 hbA.size (fun q hq => (HO0.out.lt q hq).1) | exact hbA.grown hg80 hbA.size (fun q hq => (HO0.out.lt q hq).1)); have ba_80 := keep1 hb80 ba_40)
          | (refine step_app_src rfl _ _ _ rfl w40.heap.size _ i0 _ 1 16 Try.underlying42 HI.out rfl (by omega) (by omega) _ (ss.length) _ rfl ho80 _ _ _ _ rfl ((So_40.out.below hb80).sl.src (fun _ => rfl)) (one_S _) (by omega) (by first | exact hb80.size | (simp; done) | (simp; omega)) ?_; intro v' w81 ho81 hg81; skip; obtain ⟨A81, c81, rfl⟩ := own_form ho81; have hb81 : Below w40.heap.size w40 w81 := (by first | exact hb80.drew.grown hg81 hb80.size (fun q hq => (ho80.lt q hq).1) | exact hb80.grown hg81 hb80.size (fun q hq => (ho80.lt q hq).1)); have ba_81 := keep1 hb81 ba_40)
          | (go_at_call 45; refine (HM2.out _ _ _ _ _ _ _ (by first | exact ((Sa_40.out.below hb81).call hb81.size) | exact ((Sa_40.out.below hb81).call hb81.size).drew) (ss_of_own (ss := ss ++ os) (by rw [flatS_flat, List.flatMap_append]; exact ho81) OKL.out) (by omega)).mono ?_; rintro e w82 ⟨Ax, cx, rfl, hox, hb82⟩; replace hb82 : Below w81.heap.size w81 w82 := (by first | exact hb82 | exact undrew hb82); have ba_82 := keep1 hb82 ba_81; have hb83 : Below w40.heap.size w40 w82 := hb81.trans (hb82.mono hb81.size)))
      go_wp2
      go_ret
      exact ⟨rfl, HB_40.out.trans (hb83.mono HB_40.out.size)⟩

theorem lifted (os : Os) (started : os.Started) (H : Type) (enc : TypeId × Value → H) :
    ReturnsInHanded {} Try.checked os 9 .any (Rows.fnMissedMembersSpec.pre6 enc Try.prog Try.f9 Rows.fnMissedMembersRow.domain false) (Rows.fnMissedMembersSpec.post enc Try.prog Try.f9 false true false false) := by
  refine returnsInHanded_of_change (C := Try.checked) own started (by kernel_rfl) Try.func9
    (ChangeSpec.witness6 (enc := enc) (C := Try.checked) false ⟨#[], #[.slice none 0 0], []⟩ 8 (by kernel_rfl) (by kernel_rfl) (by kernel_rfl) (by kernel_rfl)) ?_
  intro W base args ds gs before hval0 hW hcnd _
  have hval : ∀ (j : Nat) t v, Try.f9.params[j]? = some t → args[j]? = some v → Value.okWide Try.prog W .any base t v := hval0
  have hW' := hW
  obtain ⟨p, q, hA0, hV, rfl, hfz, hnd⟩ := hW
  have hA : DataW.TrodAll enc Try.prog W 0 (fun _ => true) true Try.f9.params.toList args.toList ds p := hA0
  rw [Try.params9] at hA hval
  obtain ⟨v0, vs0, d0, ds0, p0, q0, hargs, rfl, rfl, h0, r0⟩ := trodAll_cons hA
  obtain ⟨rfl, rfl, rfl⟩ := trodAll_nil r0
  obtain rfl : args = #[v0] := by cases args; simp_all
  obtain ⟨rfl, rfl⟩ := trodVars_none hV
  have k0 := h0
  have lt0 : ∀ x ∈ p0, x.block < W.heap.size := by obtain ⟨m, hm⟩ := k0; exact DataW.trod_lt m _ _ _ hm
  obtain ⟨A0, n0, c0, l0, rfl, w0⟩ := open_code (hval 0 22 v0 rfl rfl) h0
  clear hA0 hval0
  refine (walk A0 n0 c0 l0 W w0).mono fun e W' ⟨he, bel⟩ => ?_
  subst he
  exact ⟨_, rfl, _, _, _, [], _, [], hW', trodAll_mk1 (shut_bool Try.underlying4 _), (trodAll_cons_mk (Below.trod laidOut (by kernel_rfl) (of_decide_eq_true (by kernel_rfl)) k0 bel lt0) trodAll_mk0), rfl, bel.frame _, fun h => by cases h⟩

theorem over : Rows.fnMissedMembersRow.holds Try.pinned (OpenSpec.ofChange Rows.fnMissedMembersSpec) :=
  OpenClaim.holds_of_wide 9 Try.f9 rfl rfl rfl rfl rfl rfl rfl ⟨rfl, rfl, rfl, rfl, rfl⟩ rfl rfl rfl rfl rfl (by kernel_rfl) Try.func9 (by kernel_rfl)
    (of_decide_eq_true (by kernel_rfl)) (by unfold Func.isWrapper; first | (rw [if_pos (by decide +kernel)]; kernel_rfl) | (rw [if_neg (by decide +kernel)]; exact ⟨rfl, rfl⟩))
    (fun os started H enc _ => lifted os started H enc)

theorem proved : Rows.FnMissedMembersSaid := over
end Go.Proofs.Ytbkfagncoekbkaa.fnMissedMembers
