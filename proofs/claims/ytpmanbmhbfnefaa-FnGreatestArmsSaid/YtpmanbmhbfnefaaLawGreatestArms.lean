/-
For every code the law of greatest arms returns true: the program's GreatestArms answers as its model; each of the numbers is matched by one of them, none matches another number, and none covers another one.
Conditions: none.
-/
import Derived.Test.YtpmanbmhbfnefaaGenGr
import Derived.Test.YtpmanbmhbfnefaaOpenC
import Derived.Test.YtpmanbmhbfnefaaBaseU
import Derived.Test.YtpmanbmhbfnefaaLIn
import Derived.Test.YtpmanbmhbfnefaaBaseT
import Derived.Test.YtpmanbmhbfnefaaBaseR
import Derived.Test.YtpmanbmhbfnefaaArmU
import Derived.Test.YtpmanbmhbfnefaaBaseE
import Derived.Test.YtpmanbmhbfnefaaAlgJ
namespace Go.Proofs.Ytpmanbmhbfnefaa.fnGreatestArms
open Go.ChangeShapes Go.WideShapes Go.ChangeAt Go.RowKit
open Go.ChangeMaps (open_string shut_string)
set_option linter.unusedVariables false
set_option linter.unusedSimpArgs false
set_option maxRecDepth 100000

set_option maxHeartbeats 16000000 in
theorem walk (A : Option Addr) (n c : Nat) (zs : List Int) (w : World) (h : SB w w.heap.size A n c zs) :
    Calls Try.prog 6 #[.slice A n c] w fun e w' => e = .returned (.bool true) ∧ Below w.heap.size w w' := by
  have hm := h.max
  have hcap := h.cap
  unfold maxLen at hm
  have HS0 := Lib.hid h
  clear h
  by_cases hbig : 1048576 < (n : Int)
  · go_enter Try.func6, Try.ntmps6
    go_wp2
    go_ret
    exact ⟨rfl, Below.refl _ _⟩
  go_enter Try.func6, Try.ntmps6
  go_wp2_with fail
  refine (drawGreatestArms_any A n c zs _ HS0.out).mono ?_
  rintro e w1 ⟨Aa, ca, dsa, ba, As, cs, ss, rfl, hna, hsma, hbda, hs8, hs4, hsa, hss, hb⟩
  have HB_1 := Lib.hid hb
  have Sa_1 := Lib.hid hsa
  have HSMa := Lib.hid hsma
  have HOKa : Hid (∀ d ∈ dsa, d.ok) := Lib.hid (fun d hd => small_ok (hsma d hd))
  have HBDa := Lib.hid hbda
  have Ss_1 := Lib.hid hss
  clear hb hsa hsma hbda hss
  obtain ⟨w2, hw⟩ : ∃ W : World, W = (w1.alloc (.cells #[.slice Aa dsa.length ca, .int .i64 ba] 58)) := ⟨_, rfl⟩
  have hb : Below w1.heap.size w1 w2 := by rw [hw]; exact ((Below.refl _ _).alloc (by first | exact Nat.le_refl _ | (simp; done) | (simp; omega)) _)
  have Sa_2 := Lib.hid ((Sa_1.out.below hb).call hb.size)
  have Ss_2 := Lib.hid ((Ss_1.out.below hb).call hb.size)
  have HB_2 : Hid (Below w.heap.size w w2) := Lib.hid (HB_1.out.trans (hb.mono HB_1.out.size))
  have ba_2 : w2.cell? ⟨w1.heap.size, 0, none⟩ = some (.slice Aa dsa.length ca) := by rw [hw]; simp [go_sem]
  have va_2 : w2.cell? ⟨w1.heap.size, 1, none⟩ = some (.int .i64 ba) := by rw [hw]; simp [go_sem]
  have lf_ba : (w1.alloc (.cells #[.slice Aa dsa.length ca, .int .i64 ba] 58)).cell? ⟨w1.heap.size, 0, none⟩ = some (.slice Aa dsa.length ca) := by rw [← hw]; exact ba_2
  have lf_va : (w1.alloc (.cells #[.slice Aa dsa.length ca, .int .i64 ba] 58)).cell? ⟨w1.heap.size, 1, none⟩ = some (.int .i64 ba) := by rw [← hw]; exact va_2
  have HW2 : Hid ((w1.alloc (.cells #[.slice Aa dsa.length ca, .int .i64 ba] 58)) = w2) := Lib.hid hw.symm
  clear hb hw Sa_1 Ss_1 HB_1
  obtain ⟨gs, hgs⟩ : ∃ gs, mGreat dsa ba ss = gs := ⟨_, rfl⟩
  have hg4 : gs.length ≤ 4096 := by rw [← hgs]; exact mGreat_len _ _ _
  have OKG : Hid (∀ a ∈ gs, a.ok) := Lib.hid (by rw [← hgs]; exact mGreat_ok _ _ _)
  have HIM : Hid (∀ (A : Option Addr) (n c : Nat) (w : World) (As : Option Addr) (q cs : Nat), SD w w.heap.size A n c dsa → SI w w.heap.size As q cs ss → n ≤ 1048576 → Calls Try.prog 28 #[.agg #[.slice A n c, .int .i64 ba], .slice As q cs] w (ArmsP gs w)) := Lib.hid (by rw [← hgs]; exact fun A n c w As q cs h1 h2 h3 => implGreat_any dsa ba ss A n c w h1 As q cs h2 h3)
  have HSP : Hid (∀ (A : Option Addr) (n c : Nat) (w : World) (As : Option Addr) (q cs : Nat), SD w w.heap.size A n c dsa → SI w w.heap.size As q cs ss → Calls Try.prog 25 #[.agg #[.slice A n c, .int .i64 ba], .slice As q cs] w (ArmsP gs w)) := Lib.hid (by rw [← hgs]; exact fun A n c w As q cs h1 h2 => specGreat_any dsa ba ss A n c w h1 As q cs h2)
  unfold ArmsP at HIM HSP
  have HLAW : Hid (0 < gs.length → GrL dsa ba ss gs (mMask dsa) (partsTo (mMask dsa) (mMask dsa + 1))) := Lib.hid (by rw [← hgs]; exact fun h => gr_law (great_some h))
  clear hgs
  go_wp2_with fail
  rw [HW2.out]
  clear lf_ba lf_va
  refine (HIM.out _ _ _ _ _ _ _ Sa_2.out Ss_2.out (by omega)).mono ?_
  rintro e w3 ⟨Ao, co, rfl, ho, hb⟩
  have ba_3 := keep1 hb ba_2
  have va_3 := keep1 hb va_2
  have Sa_3 := Lib.hid ((Sa_2.out.below hb).call hb.size)
  have Ss_3 := Lib.hid ((Ss_2.out.below hb).call hb.size)
  have HB_3 : Hid (Below w.heap.size w w3) := Lib.hid (HB_2.out.trans (hb.mono HB_2.out.size))
  have So_3 := Lib.hid (sa_of_own ho OKG.out)
  clear hb ho ba_2 va_2 Sa_2 Ss_2 HB_2
  by_cases hz : gs.length = 0
  · have hz1 : ((gs.length : Int) == 0) = true := by rw [beq_iff_eq]; omega
    clear hz
    go_wp2_with fail
    refine (HSP.out _ _ _ _ _ _ _ Sa_3.out Ss_3.out).mono ?_
    rintro e w4 ⟨Aw, cw, rfl, ho, hb⟩
    have ba_4 := keep1 hb ba_3
    have va_4 := keep1 hb va_3
    have Sa_4 := Lib.hid ((Sa_3.out.below hb).call hb.size)
    have Ss_4 := Lib.hid ((Ss_3.out.below hb).call hb.size)
    have So_4 := Lib.hid ((So_3.out.below hb).call hb.size)
    have HB_4 : Hid (Below w.heap.size w w4) := Lib.hid (HB_3.out.trans (hb.mono HB_3.out.size))
    have Sw_4 := Lib.hid (sa_of_own ho OKG.out)
    clear hb ho ba_3 va_3 Sa_3 Ss_3 So_3 HB_3
    go_wp2_with fail
    refine (equalArms_any gs _ _ _ _ _ _ _ So_4.out Sw_4.out).mono ?_
    rintro e w5 ⟨rfl, hb⟩
    have ba_5 := keep1 hb ba_4
    have va_5 := keep1 hb va_4
    have Sa_5 := Lib.hid ((Sa_4.out.below hb).call hb.size)
    have Ss_5 := Lib.hid ((Ss_4.out.below hb).call hb.size)
    have So_5 := Lib.hid ((So_4.out.below hb).call hb.size)
    have Sw_5 := Lib.hid ((Sw_4.out.below hb).call hb.size)
    have HB_5 : Hid (Below w.heap.size w w5) := Lib.hid (HB_4.out.trans (hb.mono HB_4.out.size))
    clear hb  ba_4 va_4 Sa_4 Ss_4 So_4 Sw_4 HB_4
    clear Sw_5
    go_wp2_with fail
    refine (HSP.out _ _ _ _ _ _ _ Sa_5.out Ss_5.out).mono ?_
    rintro e w6 ⟨Av, cv, rfl, ho, hb⟩
    have ba_6 := keep1 hb ba_5
    have va_6 := keep1 hb va_5
    have Sa_6 := Lib.hid ((Sa_5.out.below hb).call hb.size)
    have Ss_6 := Lib.hid ((Ss_5.out.below hb).call hb.size)
    have So_6 := Lib.hid ((So_5.out.below hb).call hb.size)
    have HB_6 : Hid (Below w.heap.size w w6) := Lib.hid (HB_5.out.trans (hb.mono HB_5.out.size))
    have Sv_6 := Lib.hid (sa_of_own ho OKG.out)
    clear hb ho ba_5 va_5 Sa_5 Ss_5 So_5 HB_5
    go_wp2_with fail
    refine (equalArms_any gs _ _ _ _ _ _ _ So_6.out Sv_6.out).mono ?_
    rintro e w7 ⟨rfl, hb⟩
    have ba_7 := keep1 hb ba_6
    have va_7 := keep1 hb va_6
    have Sa_7 := Lib.hid ((Sa_6.out.below hb).call hb.size)
    have Ss_7 := Lib.hid ((Ss_6.out.below hb).call hb.size)
    have So_7 := Lib.hid ((So_6.out.below hb).call hb.size)
    have Sv_7 := Lib.hid ((Sv_6.out.below hb).call hb.size)
    have HB_7 : Hid (Below w.heap.size w w7) := Lib.hid (HB_6.out.trans (hb.mono HB_6.out.size))
    clear hb  ba_6 va_6 Sa_6 Ss_6 So_6 Sv_6 HB_6
    go_wp2
    go_ret
    exact ⟨by first | rfl | kernel_rfl | (go_simp; done), HB_7.out⟩
  have hz1 : ((gs.length : Int) == 0) = false := by rw [beq_eq_false_iff_ne]; omega
  have hF := HLAW.out (by omega)
  obtain ⟨mk, hmk⟩ : ∃ k, mMask dsa = k := ⟨_, rfl⟩
  rw [hmk] at hF
  have HMK := Lib.hid hF.mok
  have HPS := Lib.hid hF.ps
  have HNAT := Lib.hid hF.nat
  have ha64 := hF.few
  have HARM := Lib.hid hF.arm
  have HMT := Lib.hid hF.mt
  have HMET := Lib.hid hF.met
  have HCOV := Lib.hid hF.cov
  have OKP : Hid (∀ x ∈ partsTo mk (mk + 1), -9223372036854775808 ≤ x ∧ x ≤ 9223372036854775807) := Lib.hid (fun x hx => by obtain ⟨t, e1, h1⟩ := HNAT.out x hx; omega)
  have HPA : Hid (∀ (A : Option Addr) (n c : Nat) (w : World), SD w w.heap.size A n c dsa → n ≤ 1048576 → Calls Try.prog 36 #[.agg #[.slice A n c, .int .i64 ba], .int .i64 (mk : Int)] w (IntsP (partsTo mk (mk + 1)) w)) := Lib.hid (fun A n c w h1 h2 => by have h := implParts_any dsa ba mk A n c w h1 h2; rw [HPS.out] at h; exact h)
  unfold IntsP at HPA
  clear hz hF HLAW hmk HPS
  generalize partsTo mk (mk + 1) = all at *
  go_wp2_with fail
  refine (HSP.out _ _ _ _ _ _ _ Sa_3.out Ss_3.out).mono ?_
  rintro e w4 ⟨Aw, cw, rfl, ho, hb⟩
  have ba_4 := keep1 hb ba_3
  have va_4 := keep1 hb va_3
  have Sa_4 := Lib.hid ((Sa_3.out.below hb).call hb.size)
  have Ss_4 := Lib.hid ((Ss_3.out.below hb).call hb.size)
  have So_4 := Lib.hid ((So_3.out.below hb).call hb.size)
  have HB_4 : Hid (Below w.heap.size w w4) := Lib.hid (HB_3.out.trans (hb.mono HB_3.out.size))
  have Sw_4 := Lib.hid (sa_of_own ho OKG.out)
  clear hb ho ba_3 va_3 Sa_3 Ss_3 So_3 HB_3
  go_wp2_with fail
  refine (equalArms_any gs _ _ _ _ _ _ _ So_4.out Sw_4.out).mono ?_
  rintro e w5 ⟨rfl, hb⟩
  have ba_5 := keep1 hb ba_4
  have va_5 := keep1 hb va_4
  have Sa_5 := Lib.hid ((Sa_4.out.below hb).call hb.size)
  have Ss_5 := Lib.hid ((Ss_4.out.below hb).call hb.size)
  have So_5 := Lib.hid ((So_4.out.below hb).call hb.size)
  have Sw_5 := Lib.hid ((Sw_4.out.below hb).call hb.size)
  have HB_5 : Hid (Below w.heap.size w w5) := Lib.hid (HB_4.out.trans (hb.mono HB_4.out.size))
  clear hb  ba_4 va_4 Sa_4 Ss_4 So_4 Sw_4 HB_4
  clear Sw_5
  go_wp2_with fail
  go_region_held3 (fun w' => w'.cell? ⟨w1.heap.size, 0, none⟩ = some (.slice Aa dsa.length ca) ∧ w'.cell? ⟨w1.heap.size, 1, none⟩ = some (.int .i64 ba))
    (first | go_keep | exact ⟨ba_5, va_5⟩ | exact ⟨ba_6, va_6⟩ | exact ⟨ba_7, va_7⟩)
    (first
      | (go_at_call 37; refine (implMaskOf_v dsa ba _ _ _ _ (Sa_5.out.drewN 1) (by omega) HMK.out).mono ?_; rintro e w6 ⟨rfl, hb⟩; replace hb : Below w5.heap.size w5 w6 := (by first | exact hb | exact undrew hb); have ba_6 := keep1 hb ba_5; have va_6 := keep1 hb va_5; have Sa_6 := Lib.hid ((Sa_5.out.below hb).call hb.size); have Ss_6 := Lib.hid ((Ss_5.out.below hb).call hb.size); have So_6 := Lib.hid ((So_5.out.below hb).call hb.size); have HB_6 : Hid (Below w.heap.size w w6) := Lib.hid (HB_5.out.trans (hb.mono HB_5.out.size)); clear hb)
      | (go_at_call 36; refine (HPA.out _ _ _ _ Sa_6.out (by omega)).mono ?_; rintro e w7 ⟨Ap, cp, rfl, ho, hb⟩; have ba_7 := keep1 hb ba_6; have va_7 := keep1 hb va_6; have Sa_7 := Lib.hid ((Sa_6.out.below hb).call hb.size); have Ss_7 := Lib.hid ((Ss_6.out.below hb).call hb.size); have So_7 := Lib.hid ((So_6.out.below hb).call hb.size); have HB_7 : Hid (Below w.heap.size w w7) := Lib.hid (HB_6.out.trans (hb.mono HB_6.out.size)); have Sp_7 := Lib.hid (si_of_own ho OKP.out); clear ho; clear hb))
  go_wp2
  go_loopw [7] (fun i wr => ∃ (j : Nat), j ≤ all.length ∧ i = .int .i64 j ∧ Hid (Below w.heap.size w wr) ∧ Hid (wr.cell? ⟨w1.heap.size, 0, none⟩ = some (.slice Aa dsa.length ca)) ∧ Hid (wr.cell? ⟨w1.heap.size, 1, none⟩ = some (.int .i64 ba)) ∧ Hid (SD wr wr.heap.size Aa dsa.length ca dsa) ∧ Hid (SI wr wr.heap.size As ss.length cs ss) ∧ Hid (SA wr wr.heap.size Ao gs.length co gs) ∧ Hid (SI wr wr.heap.size Ap all.length cp all)) (fun i _ => all.length - (intOf i).toNat)
  case atStart => exact ⟨0, Nat.zero_le _, rfl, HB_7, Lib.hid ba_7, Lib.hid va_7, Sa_7, Ss_7, So_7, Sp_7⟩
  case round =>
    obtain ⟨j, hj, rfl, hbel, hca, hcv, hsa, hss, hso, hsp⟩ := hrel
    clear ba_7 va_7 HB_7 Sa_7 Ss_7 So_7 Sp_7
    have y1 := hca.out
    have y2 := hcv.out
    clear hca hcv
    by_cases hlt : j < all.length
    · have hsl := hsp.out.max
      have hsc := hsp.out.cap
      unfold maxLen at hsl
      have hol := hso.out.max
      have hoc := hso.out.cap
      unfold maxLen at hol
      obtain ⟨t, ht, ht4⟩ := HNAT.out _ (List.getElem_mem hlt)
      have HMTT : Hid (∀ i (hi : i < gs.length), mMatch dsa ba gs[i] (t : Int) = matchA t gs[i]) := Lib.hid (fun i hi => by have h := HMT.out i hi j hlt; rw [ht, Int.toNat_natCast] at h; exact h)
      have HMTJ : Hid ((gs.any fun g => matchA t g) = ss.any fun y => y == (t : Int)) := Lib.hid (by have h := HMET.out j hlt; rw [ht, Int.toNat_natCast] at h; exact h)
      have HTA := Lib.hid ht
      clear ht
      have hi1 : (j : Int) < (all.length : Int) := by omega
      have hi0 : (0 : Int) ≤ (j : Int) := by omega
      obtain ⟨w40, hwn⟩ : ∃ W : World, W = wr := ⟨_, rfl⟩
      subst hwn
      have HB_40 := hbel
      have ba_40 := y1
      have va_40 := y2
      have Sa_40 := hsa
      have Ss_40 := hss
      have So_40 := hso
      have Sp_40 := hsp
      clear hbel y1 y2 hsa hss hso hsp
      go_wp2
      go_loopw [8, 9] (fun v i wr => ∃ (m : Nat), m ≤ gs.length ∧ i = .int .i64 m ∧ v = .bool ((gs.take m).any fun g => matchA t g) ∧ Hid (Below w.heap.size w wr) ∧ Hid (wr.cell? ⟨w1.heap.size, 0, none⟩ = some (.slice Aa dsa.length ca)) ∧ Hid (wr.cell? ⟨w1.heap.size, 1, none⟩ = some (.int .i64 ba)) ∧ Hid (SD wr wr.heap.size Aa dsa.length ca dsa) ∧ Hid (SI wr wr.heap.size As ss.length cs ss) ∧ Hid (SA wr wr.heap.size Ao gs.length co gs) ∧ Hid (SI wr wr.heap.size Ap all.length cp all)) (fun _ i _ => gs.length - (intOf i).toNat)
      case atStart => exact ⟨0, Nat.zero_le _, rfl, rfl, HB_40, Lib.hid ba_40, Lib.hid va_40, Sa_40, Ss_40, So_40, Sp_40⟩
      case round =>
        obtain ⟨m, hm2, rfl, rfl, hbel, hca, hcv, hsa, hss, hso, hsp⟩ := hrel
        clear ba_40 va_40 HB_40 Sa_40 Ss_40 So_40 Sp_40
        have y1 := hca.out
        have y2 := hcv.out
        clear hca hcv
        by_cases hlm : m < gs.length
        · obtain ⟨b, o, hA, hbb, x1⟩ := hsp.out.at_ hlt
          subst hA
          obtain ⟨b2, o2, hA, hbb2, x2, x3⟩ := hso.out.at_ hlm
          subst hA
          obtain ⟨p, q, hp, hq, hp4, hq4⟩ := HARM.out _ (List.getElem_mem hlm)
          have HGM : Hid (gs[m] = ⟨(p : Int), (q : Int)⟩) := Lib.hid (by cases h : gs[m]; rw [h] at hp hq; simp only at hp hq; rw [hp, hq])
          have HMV0 := Lib.hid (HMTT.out m hlm)
          have HAN := Lib.hid (any_take_succ (fun g => matchA t g) gs m hlm)
          rw [HGM.out] at x2 x3 HMV0 HAN
          rw [HTA.out] at x1
          obtain ⟨mv, hmv⟩ : ∃ v, matchA t ⟨(p : Int), (q : Int)⟩ = v := ⟨_, rfl⟩
          have HMVV := Lib.hid hmv
          rw [hmv] at HMV0 HAN
          have hj1 : (m : Int) < (gs.length : Int) := by omega
          have hj0 : (0 : Int) ≤ (m : Int) := by omega
          have Ip : I64 (p : Int) := by unfold I64; omega
          have Iq : I64 (q : Int) := by unfold I64; omega
          clear hp hq hmv
          generalize hcv : ((gs.take m).any fun g => matchA t g) = cv at *
          have HCV := Lib.hid hcv
          clear hcv
          cases cv
          case false =>
            have HAN2 : Hid (((gs.take (m + 1)).any fun g => matchA t g) = mv) := Lib.hid (by rw [HAN.out, Bool.false_or])
            obtain ⟨w60, hwn⟩ : ∃ W : World, W = wr := ⟨_, rfl⟩
            subst hwn
            have HB_60 := hbel
            have ba_60 := y1
            have va_60 := y2
            have Sa_60 := hsa
            have Ss_60 := hss
            have So_60 := hso
            have Sp_60 := hsp
            have x1_60 := x1
            have x2_60 := x2
            have x3_60 := x3
            clear hbel y1 y2 hsa hss hso hsp x1 x2 x3
            go_wp2_with fail
            refine wp_region_held_drew (S := (fun w' => w'.cell? ⟨w1.heap.size, 0, none⟩ = some (.slice Aa dsa.length ca) ∧ w'.cell? ⟨w1.heap.size, 1, none⟩ = some (.int .i64 ba) ∧ w'.cell? ⟨b, o + j, none⟩ = some (.int .i64 t) ∧ w'.cell? ⟨b2, o2 + m * 2, none⟩ = some (.int .i64 p) ∧ w'.cell? ⟨b2, o2 + m * 2 + 1, none⟩ = some (.int .i64 q))) (by kernel_rfl) ⟨ba_60, va_60, x1_60, x2_60, x3_60⟩ (fun hHeld => ?_)
            refine wpAnyH_take (i := 0) (v := ?_) rfl (by kernel_rfl) (by kernel_rfl) (by kernel_rfl) (fun _ _ _ h => h) (Or.inl ⟨by kernel_rfl, ?_⟩) hHeld ?_
            rotate_left
            · intro wz hSw
              try dsimp only at hSw
              first
              | (go_simp; done)
              | (go_simp; with_reducible rfl)
            try simp only [Act.put, List.setIfInBounds_toArray, List.set_cons_zero, List.set_cons_succ]
            refine wpAnyH_take (i := 1) (v := ?_) rfl (by kernel_rfl) (by kernel_rfl) (by kernel_rfl) (fun _ _ _ h => h) (Or.inl ⟨by kernel_rfl, ?_⟩) hHeld ?_
            rotate_left
            · intro wz hSw
              try dsimp only at hSw
              first
              | (go_simp; done)
              | (go_simp; with_reducible rfl)
            try simp only [Act.put, List.setIfInBounds_toArray, List.set_cons_zero, List.set_cons_succ]
            refine wpAnyH_take (i := 2) (v := ?_) rfl (by kernel_rfl) (by kernel_rfl) (by kernel_rfl) (fun _ _ _ h => h) (Or.inl ⟨by kernel_rfl, ?_⟩) hHeld ?_
            rotate_left
            · intro wz hSw
              try dsimp only at hSw
              first
              | (go_simp; done)
              | (go_simp; with_reducible rfl)
            try simp only [Act.put, List.setIfInBounds_toArray, List.set_cons_zero, List.set_cons_succ]
            refine wpAnyH_take (i := 3) (v := ?_) rfl (by kernel_rfl) (by kernel_rfl) (by kernel_rfl) (fun _ _ _ h => h) (Or.inl ⟨by kernel_rfl, ?_⟩) hHeld ?_
            rotate_left
            · intro wz hSw
              try dsimp only at hSw
              first
              | (go_simp; done)
              | (go_simp; with_reducible rfl)
            try simp only [Act.put, List.setIfInBounds_toArray, List.set_cons_zero, List.set_cons_succ]
            refine wpAnyH_take (i := 4) (v := ?_) rfl (by kernel_rfl) (by kernel_rfl) (by kernel_rfl) (fun _ _ _ h => h) (Or.inl ⟨by kernel_rfl, ?_⟩) hHeld ?_
            rotate_left
            · intro wz hSw
              try dsimp only at hSw
              first
              | (go_simp; done)
              | (go_simp; with_reducible rfl)
            try simp only [Act.put, List.setIfInBounds_toArray, List.set_cons_zero, List.set_cons_succ]
            refine wpAnyH_take (i := 5) (v := ?_) rfl (by kernel_rfl) (by kernel_rfl) (by kernel_rfl) (fun _ _ _ h => h) (Or.inl ⟨by kernel_rfl, ?_⟩) hHeld ?_
            rotate_left
            · intro wz hSw
              try dsimp only at hSw
              first
              | (go_simp; done)
              | (go_simp; with_reducible rfl)
            try simp only [Act.put, List.setIfInBounds_toArray, List.set_cons_zero, List.set_cons_succ]
            refine wpAnyH_take (i := 6) (v := ?_) rfl (by kernel_rfl) (by kernel_rfl) (by kernel_rfl) (fun _ _ _ h => h) (Or.inl ⟨by kernel_rfl, ?_⟩) hHeld ?_
            rotate_left
            · intro wz hSw
              try dsimp only at hSw
              first
              | (go_simp; done)
              | (go_simp; with_reducible rfl)
            try simp only [Act.put, List.setIfInBounds_toArray, List.set_cons_zero, List.set_cons_succ]
            refine wpAnyH_take (i := 7) (v := ?_) rfl (by kernel_rfl) (by kernel_rfl) (by kernel_rfl) (fun _ _ _ h => h) (Or.inl ⟨by kernel_rfl, ?_⟩) hHeld ?_
            rotate_left
            · intro wz hSw
              try dsimp only at hSw
              first
              | (go_simp; done)
              | (go_simp; with_reducible rfl)
            try simp only [Act.put, List.setIfInBounds_toArray, List.set_cons_zero, List.set_cons_succ]
            refine wpAnyH_take (i := 8) (v := ?_) rfl (by kernel_rfl) (by kernel_rfl) (by kernel_rfl) (fun _ _ _ h => h) (Or.inl ⟨by kernel_rfl, ?_⟩) hHeld ?_
            rotate_left
            · intro wz hSw
              try dsimp only at hSw
              first
              | (go_simp; done)
              | (go_simp; with_reducible rfl)
            try simp only [Act.put, List.setIfInBounds_toArray, List.set_cons_zero, List.set_cons_succ]
            refine wpAnyH_take (i := 9) (v := ?_) rfl (by kernel_rfl) (by kernel_rfl) (by kernel_rfl) (fun _ _ _ h => h) (Or.inl ⟨by kernel_rfl, ?_⟩) hHeld ?_
            rotate_left
            · intro wz hSw
              try dsimp only at hSw
              first
              | (go_simp; done)
              | (go_simp; with_reducible rfl)
            try simp only [Act.put, List.setIfInBounds_toArray, List.set_cons_zero, List.set_cons_succ]
            refine wpAnyH_take (i := 10) (v := ?_) rfl (by kernel_rfl) (by kernel_rfl) (by kernel_rfl) (fun _ _ _ h => h) (Or.inl ⟨by kernel_rfl, ?_⟩) hHeld ?_
            rotate_left
            · intro wz hSw
              try dsimp only at hSw
              first
              | (go_simp; done)
              | (go_simp; with_reducible rfl)
            try simp only [Act.put, List.setIfInBounds_toArray, List.set_cons_zero, List.set_cons_succ]
            refine wpAnyH_ready (rs := [11]) (by kernel_rfl) (by simp) ?_
            refine AllReadyH.cons rfl (fun K hK => ?_) AllReadyH.nil
            go_simp
            refine (implMatchArm_v dsa ba p q t _ _ _ _ (Sa_60.out.drewN 1) (by omega) Ip Iq HMV0.out).mono ?_
            rintro e w61 ⟨rfl, hb⟩
            replace hb : Below w60.heap.size w60 w61 := (by first | exact hb | exact undrew hb)
            have ba_61 := keep1 hb ba_60
            have va_61 := keep1 hb va_60
            have x1_61 := keep1 hb x1_60
            have x2_61 := keep1 hb x2_60
            have x3_61 := keep1 hb x3_60
            have Sa_61 := Lib.hid ((Sa_60.out.below hb).call hb.size)
            have Ss_61 := Lib.hid ((Ss_60.out.below hb).call hb.size)
            have So_61 := Lib.hid ((So_60.out.below hb).call hb.size)
            have Sp_61 := Lib.hid ((Sp_60.out.below hb).call hb.size)
            have HB_61 : Hid (Below w.heap.size w w61) := Lib.hid (HB_60.out.trans (hb.mono HB_60.out.size))
            go_simp
            refine hK.out _ _ ⟨ba_61, va_61, x1_61, x2_61, x3_61⟩ (fun hHeld => ?_)
            clear hK K
            try simp only [Act.put, List.setIfInBounds_toArray, List.set_cons_zero, List.set_cons_succ]
            refine wpAnyH_take (i := 12) (v := ?_) rfl (by kernel_rfl) (by kernel_rfl) (by kernel_rfl) (fun _ _ _ h => h) (Or.inl ⟨by kernel_rfl, ?_⟩) hHeld ?_
            rotate_left
            · intro wz hSw
              try dsimp only at hSw
              first
              | (go_simp; done)
              | (go_simp; with_reducible rfl)
            try simp only [Act.put, List.setIfInBounds_toArray, List.set_cons_zero, List.set_cons_succ]
            refine wpAnyH_take (i := 13) (v := ?_) rfl (by kernel_rfl) (by kernel_rfl) (by kernel_rfl) (fun _ _ _ h => h) (Or.inl ⟨by kernel_rfl, ?_⟩) hHeld ?_
            rotate_left
            · intro wz hSw
              try dsimp only at hSw
              first
              | (go_simp; done)
              | (go_simp; with_reducible rfl)
            try simp only [Act.put, List.setIfInBounds_toArray, List.set_cons_zero, List.set_cons_succ]
            refine wpAnyH_done (by kernel_rfl) ?_ _
            try go_simp
            go_wp2
            go_roundw
            case rel => exact ⟨m + 1, by omega, by go_num, by rw [HAN2.out], HB_61, Lib.hid ba_61, Lib.hid va_61, Sa_61, Ss_61, So_61, Sp_61⟩
            case measure => simp [intOf]; omega
          case true =>
            have HAN2 : Hid (((gs.take (m + 1)).any fun g => matchA t g) = true) := Lib.hid (by rw [HAN.out, Bool.true_or])
            obtain ⟨w60, hwn⟩ : ∃ W : World, W = wr := ⟨_, rfl⟩
            subst hwn
            have HB_60 := hbel
            have ba_60 := y1
            have va_60 := y2
            have Sa_60 := hsa
            have Ss_60 := hss
            have So_60 := hso
            have Sp_60 := hsp
            have x1_60 := x1
            have x2_60 := x2
            have x3_60 := x3
            clear hbel y1 y2 hsa hss hso hsp x1 x2 x3
            go_wp2_with fail
            refine wp_region_held_drew (S := (fun w' => w'.cell? ⟨w1.heap.size, 0, none⟩ = some (.slice Aa dsa.length ca) ∧ w'.cell? ⟨w1.heap.size, 1, none⟩ = some (.int .i64 ba) ∧ w'.cell? ⟨b, o + j, none⟩ = some (.int .i64 t) ∧ w'.cell? ⟨b2, o2 + m * 2, none⟩ = some (.int .i64 p) ∧ w'.cell? ⟨b2, o2 + m * 2 + 1, none⟩ = some (.int .i64 q))) (by kernel_rfl) ⟨ba_60, va_60, x1_60, x2_60, x3_60⟩ (fun hHeld => ?_)
            refine wpAnyH_take (i := 0) (v := ?_) rfl (by kernel_rfl) (by kernel_rfl) (by kernel_rfl) (fun _ _ _ h => h) (Or.inl ⟨by kernel_rfl, ?_⟩) hHeld ?_
            rotate_left
            · intro wz hSw
              try dsimp only at hSw
              first
              | (go_simp; done)
              | (go_simp; with_reducible rfl)
            try simp only [Act.put, List.setIfInBounds_toArray, List.set_cons_zero, List.set_cons_succ]
            refine wpAnyH_take (i := 1) (v := ?_) rfl (by kernel_rfl) (by kernel_rfl) (by kernel_rfl) (fun _ _ _ h => h) (Or.inl ⟨by kernel_rfl, ?_⟩) hHeld ?_
            rotate_left
            · intro wz hSw
              try dsimp only at hSw
              first
              | (go_simp; done)
              | (go_simp; with_reducible rfl)
            try simp only [Act.put, List.setIfInBounds_toArray, List.set_cons_zero, List.set_cons_succ]
            refine wpAnyH_take (i := 2) (v := undef) rfl (by kernel_rfl) (by kernel_rfl) (by kernel_rfl) (fun _ _ _ h => h) (Or.inr ⟨by kernel_rfl, rfl⟩) hHeld ?_
            try simp only [Act.put, List.setIfInBounds_toArray, List.set_cons_zero, List.set_cons_succ]
            refine wpAnyH_take (i := 3) (v := undef) rfl (by kernel_rfl) (by kernel_rfl) (by kernel_rfl) (fun _ _ _ h => h) (Or.inr ⟨by kernel_rfl, rfl⟩) hHeld ?_
            try simp only [Act.put, List.setIfInBounds_toArray, List.set_cons_zero, List.set_cons_succ]
            refine wpAnyH_take (i := 4) (v := undef) rfl (by kernel_rfl) (by kernel_rfl) (by kernel_rfl) (fun _ _ _ h => h) (Or.inr ⟨by kernel_rfl, rfl⟩) hHeld ?_
            try simp only [Act.put, List.setIfInBounds_toArray, List.set_cons_zero, List.set_cons_succ]
            refine wpAnyH_take (i := 5) (v := undef) rfl (by kernel_rfl) (by kernel_rfl) (by kernel_rfl) (fun _ _ _ h => h) (Or.inr ⟨by kernel_rfl, rfl⟩) hHeld ?_
            try simp only [Act.put, List.setIfInBounds_toArray, List.set_cons_zero, List.set_cons_succ]
            refine wpAnyH_take (i := 6) (v := undef) rfl (by kernel_rfl) (by kernel_rfl) (by kernel_rfl) (fun _ _ _ h => h) (Or.inr ⟨by kernel_rfl, rfl⟩) hHeld ?_
            try simp only [Act.put, List.setIfInBounds_toArray, List.set_cons_zero, List.set_cons_succ]
            refine wpAnyH_take (i := 7) (v := undef) rfl (by kernel_rfl) (by kernel_rfl) (by kernel_rfl) (fun _ _ _ h => h) (Or.inr ⟨by kernel_rfl, rfl⟩) hHeld ?_
            try simp only [Act.put, List.setIfInBounds_toArray, List.set_cons_zero, List.set_cons_succ]
            refine wpAnyH_take (i := 8) (v := undef) rfl (by kernel_rfl) (by kernel_rfl) (by kernel_rfl) (fun _ _ _ h => h) (Or.inr ⟨by kernel_rfl, rfl⟩) hHeld ?_
            try simp only [Act.put, List.setIfInBounds_toArray, List.set_cons_zero, List.set_cons_succ]
            refine wpAnyH_take (i := 9) (v := undef) rfl (by kernel_rfl) (by kernel_rfl) (by kernel_rfl) (fun _ _ _ h => h) (Or.inr ⟨by kernel_rfl, rfl⟩) hHeld ?_
            try simp only [Act.put, List.setIfInBounds_toArray, List.set_cons_zero, List.set_cons_succ]
            refine wpAnyH_take (i := 10) (v := undef) rfl (by kernel_rfl) (by kernel_rfl) (by kernel_rfl) (fun _ _ _ h => h) (Or.inr ⟨by kernel_rfl, rfl⟩) hHeld ?_
            try simp only [Act.put, List.setIfInBounds_toArray, List.set_cons_zero, List.set_cons_succ]
            refine wpAnyH_take (i := 11) (v := undef) rfl (by kernel_rfl) (by kernel_rfl) (by kernel_rfl) (fun _ _ _ h => h) (Or.inr ⟨by kernel_rfl, rfl⟩) hHeld ?_
            try simp only [Act.put, List.setIfInBounds_toArray, List.set_cons_zero, List.set_cons_succ]
            refine wpAnyH_take (i := 12) (v := ?_) rfl (by kernel_rfl) (by kernel_rfl) (by kernel_rfl) (fun _ _ _ h => h) (Or.inl ⟨by kernel_rfl, ?_⟩) hHeld ?_
            rotate_left
            · intro wz hSw
              try dsimp only at hSw
              first
              | (go_simp; done)
              | (go_simp; with_reducible rfl)
            try simp only [Act.put, List.setIfInBounds_toArray, List.set_cons_zero, List.set_cons_succ]
            refine wpAnyH_take (i := 13) (v := ?_) rfl (by kernel_rfl) (by kernel_rfl) (by kernel_rfl) (fun _ _ _ h => h) (Or.inl ⟨by kernel_rfl, ?_⟩) hHeld ?_
            rotate_left
            · intro wz hSw
              try dsimp only at hSw
              first
              | (go_simp; done)
              | (go_simp; with_reducible rfl)
            try simp only [Act.put, List.setIfInBounds_toArray, List.set_cons_zero, List.set_cons_succ]
            refine wpAnyH_done (by kernel_rfl) ?_ _
            try go_simp
            go_wp2
            go_roundw
            case rel => exact ⟨m + 1, by omega, by go_num, by rw [HAN2.out], Lib.hid HB_60.out.drew, Lib.hid ba_60, Lib.hid va_60, Lib.hid Sa_60.out.drew, Lib.hid Ss_60.out.drew, Lib.hid So_60.out.drew, Lib.hid Sp_60.out.drew⟩
            case measure => simp [intOf]; omega
        · obtain rfl : m = gs.length := by omega
          have hm9 : ¬ (gs.length : Int) < (gs.length : Int) := by omega
          have HE : Hid (((gs.take gs.length).any fun g => matchA t g) = ss.any fun y => y == (t : Int)) := Lib.hid (by rw [List.take_of_length_le (Nat.le_refl _)]; exact HMTJ.out)
          rw [HE.out]
          obtain ⟨b, o, hA, hbb, x1⟩ := hsp.out.at_ hlt
          subst hA
          rw [HTA.out] at x1
          obtain ⟨iv, hiv⟩ : ∃ v, (ss.any fun y => y == (t : Int)) = v := ⟨_, rfl⟩
          have HIV := Lib.hid hiv
          rw [hiv]
          clear hiv
          obtain ⟨w60, hwn⟩ : ∃ W : World, W = wr := ⟨_, rfl⟩
          subst hwn
          have HB_60 := hbel
          have ba_60 := y1
          have va_60 := y2
          have Sa_60 := hsa
          have Ss_60 := hss
          have So_60 := hso
          have Sp_60 := hsp
          have x1_60 := x1
          clear hbel y1 y2 hsa hss hso hsp x1
          cases iv
          case false =>
            go_wp2_with fail
            refine (isIn_any ss t _ _ _ _ Ss_60.out HIV.out).mono ?_
            rintro e w61 ⟨rfl, hb⟩
            have ba_61 := keep1 hb ba_60
            have va_61 := keep1 hb va_60
            have x1_61 := keep1 hb x1_60
            have Sa_61 := Lib.hid ((Sa_60.out.below hb).call hb.size)
            have Ss_61 := Lib.hid ((Ss_60.out.below hb).call hb.size)
            have So_61 := Lib.hid ((So_60.out.below hb).call hb.size)
            have Sp_61 := Lib.hid ((Sp_60.out.below hb).call hb.size)
            have HB_61 : Hid (Below w.heap.size w w61) := Lib.hid (HB_60.out.trans (hb.mono HB_60.out.size))
            clear hb  ba_60 va_60 x1_60 Sa_60 Ss_60 So_60 Sp_60 HB_60
            go_wp2
            go_roundw
            case rel => exact ⟨j + 1, by omega, by go_num, HB_61, Lib.hid ba_61, Lib.hid va_61, Sa_61, Ss_61, So_61, Sp_61⟩
            case measure => simp [intOf]; omega
          case true =>
            go_wp2_with fail
            refine (isIn_any ss t _ _ _ _ Ss_60.out HIV.out).mono ?_
            rintro e w61 ⟨rfl, hb⟩
            have ba_61 := keep1 hb ba_60
            have va_61 := keep1 hb va_60
            have x1_61 := keep1 hb x1_60
            have Sa_61 := Lib.hid ((Sa_60.out.below hb).call hb.size)
            have Ss_61 := Lib.hid ((Ss_60.out.below hb).call hb.size)
            have So_61 := Lib.hid ((So_60.out.below hb).call hb.size)
            have Sp_61 := Lib.hid ((Sp_60.out.below hb).call hb.size)
            have HB_61 : Hid (Below w.heap.size w w61) := Lib.hid (HB_60.out.trans (hb.mono HB_60.out.size))
            clear hb  ba_60 va_60 x1_60 Sa_60 Ss_60 So_60 Sp_60 HB_60
            go_wp2
            go_roundw
            case rel => exact ⟨j + 1, by omega, by go_num, HB_61, Lib.hid ba_61, Lib.hid va_61, Sa_61, Ss_61, So_61, Sp_61⟩
            case measure => simp [intOf]; omega
    · obtain rfl : j = all.length := by omega
      have hj9 : ¬ (all.length : Int) < (all.length : Int) := by omega
      obtain ⟨w40, hwn⟩ : ∃ W : World, W = wr := ⟨_, rfl⟩
      subst hwn
      have HB_40 := hbel
      have ba_40 := y1
      have va_40 := y2
      have Sa_40 := hsa
      have Ss_40 := hss
      have So_40 := hso
      have Sp_40 := hsp
      clear hbel y1 y2 hsa hss hso hsp
      go_wp2
      go_loopw [10] (fun i wr => ∃ (j : Nat), j ≤ gs.length ∧ i = .int .i64 j ∧ Hid (Below w.heap.size w wr) ∧ Hid (wr.cell? ⟨w1.heap.size, 0, none⟩ = some (.slice Aa dsa.length ca)) ∧ Hid (wr.cell? ⟨w1.heap.size, 1, none⟩ = some (.int .i64 ba)) ∧ Hid (SD wr wr.heap.size Aa dsa.length ca dsa) ∧ Hid (SI wr wr.heap.size As ss.length cs ss) ∧ Hid (SA wr wr.heap.size Ao gs.length co gs) ∧ Hid (SI wr wr.heap.size Ap all.length cp all)) (fun i _ => gs.length - (intOf i).toNat)
      case atStart => exact ⟨0, Nat.zero_le _, rfl, HB_40, Lib.hid ba_40, Lib.hid va_40, Sa_40, Ss_40, So_40, Sp_40⟩
      case round =>
        obtain ⟨j, hj, rfl, hbel, hca, hcv, hsa, hss, hso, hsp⟩ := hrel
        clear ba_40 va_40 HB_40 Sa_40 Ss_40 So_40 Sp_40
        have y1 := hca.out
        have y2 := hcv.out
        clear hca hcv
        by_cases hlt : j < gs.length
        · have hol := hso.out.max
          have hoc := hso.out.cap
          unfold maxLen at hol
          have hi1 : (j : Int) < (gs.length : Int) := by omega
          have hi0 : (0 : Int) ≤ (j : Int) := by omega
          obtain ⟨w50, hwn⟩ : ∃ W : World, W = wr := ⟨_, rfl⟩
          subst hwn
          have HB_50 := hbel
          have ba_50 := y1
          have va_50 := y2
          have Sa_50 := hsa
          have Ss_50 := hss
          have So_50 := hso
          have Sp_50 := hsp
          clear hbel y1 y2 hsa hss hso hsp
          go_wp2
          go_loopw [11] (fun i wr => ∃ (m : Nat), m ≤ gs.length ∧ i = .int .i64 m ∧ Hid (Below w.heap.size w wr) ∧ Hid (wr.cell? ⟨w1.heap.size, 0, none⟩ = some (.slice Aa dsa.length ca)) ∧ Hid (wr.cell? ⟨w1.heap.size, 1, none⟩ = some (.int .i64 ba)) ∧ Hid (SD wr wr.heap.size Aa dsa.length ca dsa) ∧ Hid (SI wr wr.heap.size As ss.length cs ss) ∧ Hid (SA wr wr.heap.size Ao gs.length co gs) ∧ Hid (SI wr wr.heap.size Ap all.length cp all)) (fun i _ => gs.length - (intOf i).toNat)
          case atStart => exact ⟨0, Nat.zero_le _, rfl, HB_50, Lib.hid ba_50, Lib.hid va_50, Sa_50, Ss_50, So_50, Sp_50⟩
          case round =>
            obtain ⟨m, hm2, rfl, hbel, hca, hcv, hsa, hss, hso, hsp⟩ := hrel
            clear ba_50 va_50 HB_50 Sa_50 Ss_50 So_50 Sp_50
            have y1 := hca.out
            have y2 := hcv.out
            clear hca hcv
            by_cases hlm : m < gs.length
            · obtain ⟨b, o, hA, hbb, x1, x2⟩ := hso.out.at_ hlt
              obtain ⟨b2, o2, hA2, hbb2, x3, x4⟩ := hso.out.at_ hlm
              subst hA
              injection hA2 with hA2
              injection hA2 with e1 e2
              subst e1 e2
              have hj1 : (m : Int) < (gs.length : Int) := by omega
              have hj0 : (0 : Int) ≤ (m : Int) := by omega
              obtain ⟨p, q, hp, hq, hp4, hq4⟩ := HARM.out _ (List.getElem_mem hlt)
              obtain ⟨r, s, hr, hs, hr4, hs4⟩ := HARM.out _ (List.getElem_mem hlm)
              have HCV := Lib.hid (HCOV.out j hlt m hlm)
              have HGJ : Hid (gs[j] = ⟨(p : Int), (q : Int)⟩) := Lib.hid (by cases h : gs[j]; rw [h] at hp hq; simp only at hp hq; rw [hp, hq])
              have HGM : Hid (gs[m] = ⟨(r : Int), (s : Int)⟩) := Lib.hid (by cases h : gs[m]; rw [h] at hr hs; simp only at hr hs; rw [hr, hs])
              rw [HGJ.out] at x1 x2 HCV
              rw [HGM.out] at x3 x4 HCV
              have Ip : I64 (p : Int) := by unfold I64; omega
              have Iq : I64 (q : Int) := by unfold I64; omega
              have Ir : I64 (r : Int) := by unfold I64; omega
              have Is : I64 (s : Int) := by unfold I64; omega
              clear hp hq hr hs
              by_cases hjm : j = m
              case pos =>
                subst hjm
                clear x1 x2 x3 x4
                obtain ⟨w60, hwn⟩ : ∃ W : World, W = wr := ⟨_, rfl⟩
                subst hwn
                have HB_60 := hbel
                have ba_60 := y1
                have va_60 := y2
                have Sa_60 := hsa
                have Ss_60 := hss
                have So_60 := hso
                have Sp_60 := hsp
                clear hbel y1 y2 hsa hss hso hsp
                go_wp2_with fail
                refine wp_region_held_drew (S := (fun w' => w'.cell? ⟨w1.heap.size, 0, none⟩ = some (.slice Aa dsa.length ca) ∧ w'.cell? ⟨w1.heap.size, 1, none⟩ = some (.int .i64 ba))) (by kernel_rfl) ⟨ba_60, va_60⟩ (fun hHeld => ?_)
                refine wpAnyH_take (i := 0) (v := ?_) rfl (by kernel_rfl) (by kernel_rfl) (by kernel_rfl) (fun _ _ _ h => h) (Or.inl ⟨by kernel_rfl, ?_⟩) hHeld ?_
                rotate_left
                · intro wz hSw
                  try dsimp only at hSw
                  first
                  | (go_simp; done)
                  | (go_simp; with_reducible rfl)
                try simp only [Act.put, List.setIfInBounds_toArray, List.set_cons_zero, List.set_cons_succ]
                refine wpAnyH_take (i := 1) (v := ?_) rfl (by kernel_rfl) (by kernel_rfl) (by kernel_rfl) (fun _ _ _ h => h) (Or.inl ⟨by kernel_rfl, ?_⟩) hHeld ?_
                rotate_left
                · intro wz hSw
                  try dsimp only at hSw
                  first
                  | (go_simp; done)
                  | (go_simp; with_reducible rfl)
                try simp only [Act.put, List.setIfInBounds_toArray, List.set_cons_zero, List.set_cons_succ]
                refine wpAnyH_take (i := 2) (v := ?_) rfl (by kernel_rfl) (by kernel_rfl) (by kernel_rfl) (fun _ _ _ h => h) (Or.inl ⟨by kernel_rfl, ?_⟩) hHeld ?_
                rotate_left
                · intro wz hSw
                  try dsimp only at hSw
                  first
                  | (go_simp; done)
                  | (go_simp; with_reducible rfl)
                try simp only [Act.put, List.setIfInBounds_toArray, List.set_cons_zero, List.set_cons_succ]
                refine wpAnyH_take (i := 3) (v := ?_) rfl (by kernel_rfl) (by kernel_rfl) (by kernel_rfl) (fun _ _ _ h => h) (Or.inl ⟨by kernel_rfl, ?_⟩) hHeld ?_
                rotate_left
                · intro wz hSw
                  try dsimp only at hSw
                  first
                  | (go_simp; done)
                  | (go_simp; with_reducible rfl)
                try simp only [Act.put, List.setIfInBounds_toArray, List.set_cons_zero, List.set_cons_succ]
                refine wpAnyH_take (i := 4) (v := undef) rfl (by kernel_rfl) (by kernel_rfl) (by kernel_rfl) (fun _ _ _ h => h) (Or.inr ⟨by kernel_rfl, rfl⟩) hHeld ?_
                try simp only [Act.put, List.setIfInBounds_toArray, List.set_cons_zero, List.set_cons_succ]
                refine wpAnyH_take (i := 5) (v := undef) rfl (by kernel_rfl) (by kernel_rfl) (by kernel_rfl) (fun _ _ _ h => h) (Or.inr ⟨by kernel_rfl, rfl⟩) hHeld ?_
                try simp only [Act.put, List.setIfInBounds_toArray, List.set_cons_zero, List.set_cons_succ]
                refine wpAnyH_take (i := 6) (v := undef) rfl (by kernel_rfl) (by kernel_rfl) (by kernel_rfl) (fun _ _ _ h => h) (Or.inr ⟨by kernel_rfl, rfl⟩) hHeld ?_
                try simp only [Act.put, List.setIfInBounds_toArray, List.set_cons_zero, List.set_cons_succ]
                refine wpAnyH_take (i := 7) (v := undef) rfl (by kernel_rfl) (by kernel_rfl) (by kernel_rfl) (fun _ _ _ h => h) (Or.inr ⟨by kernel_rfl, rfl⟩) hHeld ?_
                try simp only [Act.put, List.setIfInBounds_toArray, List.set_cons_zero, List.set_cons_succ]
                refine wpAnyH_take (i := 8) (v := undef) rfl (by kernel_rfl) (by kernel_rfl) (by kernel_rfl) (fun _ _ _ h => h) (Or.inr ⟨by kernel_rfl, rfl⟩) hHeld ?_
                try simp only [Act.put, List.setIfInBounds_toArray, List.set_cons_zero, List.set_cons_succ]
                refine wpAnyH_take (i := 9) (v := undef) rfl (by kernel_rfl) (by kernel_rfl) (by kernel_rfl) (fun _ _ _ h => h) (Or.inr ⟨by kernel_rfl, rfl⟩) hHeld ?_
                try simp only [Act.put, List.setIfInBounds_toArray, List.set_cons_zero, List.set_cons_succ]
                refine wpAnyH_take (i := 10) (v := undef) rfl (by kernel_rfl) (by kernel_rfl) (by kernel_rfl) (fun _ _ _ h => h) (Or.inr ⟨by kernel_rfl, rfl⟩) hHeld ?_
                try simp only [Act.put, List.setIfInBounds_toArray, List.set_cons_zero, List.set_cons_succ]
                refine wpAnyH_take (i := 11) (v := undef) rfl (by kernel_rfl) (by kernel_rfl) (by kernel_rfl) (fun _ _ _ h => h) (Or.inr ⟨by kernel_rfl, rfl⟩) hHeld ?_
                try simp only [Act.put, List.setIfInBounds_toArray, List.set_cons_zero, List.set_cons_succ]
                refine wpAnyH_take (i := 12) (v := undef) rfl (by kernel_rfl) (by kernel_rfl) (by kernel_rfl) (fun _ _ _ h => h) (Or.inr ⟨by kernel_rfl, rfl⟩) hHeld ?_
                try simp only [Act.put, List.setIfInBounds_toArray, List.set_cons_zero, List.set_cons_succ]
                refine wpAnyH_take (i := 13) (v := undef) rfl (by kernel_rfl) (by kernel_rfl) (by kernel_rfl) (fun _ _ _ h => h) (Or.inr ⟨by kernel_rfl, rfl⟩) hHeld ?_
                try simp only [Act.put, List.setIfInBounds_toArray, List.set_cons_zero, List.set_cons_succ]
                refine wpAnyH_take (i := 14) (v := ?_) rfl (by kernel_rfl) (by kernel_rfl) (by kernel_rfl) (fun _ _ _ h => h) (Or.inl ⟨by kernel_rfl, ?_⟩) hHeld ?_
                rotate_left
                · intro wz hSw
                  try dsimp only at hSw
                  first
                  | (go_simp; done)
                  | (go_simp; with_reducible rfl)
                try simp only [Act.put, List.setIfInBounds_toArray, List.set_cons_zero, List.set_cons_succ]
                refine wpAnyH_done (by kernel_rfl) ?_ _
                try go_simp
                go_wp2
                go_roundw
                case rel => exact ⟨j + 1, by omega, by go_num, Lib.hid HB_60.out.drew, Lib.hid ba_60, Lib.hid va_60, Lib.hid Sa_60.out.drew, Lib.hid Ss_60.out.drew, Lib.hid So_60.out.drew, Lib.hid Sp_60.out.drew⟩
                case measure => simp [intOf]; omega
              case neg =>
                have HCV2 := Lib.hid (HCV.out hjm)
                have hjq : ¬ ((j : Int) = (m : Int)) := by omega
                have hjb : ((j : Int) != (m : Int)) = true := by rw [bne_iff_ne]; exact hjq
                obtain ⟨w60, hwn⟩ : ∃ W : World, W = wr := ⟨_, rfl⟩
                subst hwn
                have HB_60 := hbel
                have ba_60 := y1
                have va_60 := y2
                have Sa_60 := hsa
                have Ss_60 := hss
                have So_60 := hso
                have Sp_60 := hsp
                have x1_60 := x1
                have x2_60 := x2
                have x3_60 := x3
                have x4_60 := x4
                clear hbel y1 y2 hsa hss hso hsp x1 x2 x3 x4
                go_wp2_with fail
                refine wp_region_held_drew (S := (fun w' => w'.cell? ⟨w1.heap.size, 0, none⟩ = some (.slice Aa dsa.length ca) ∧ w'.cell? ⟨w1.heap.size, 1, none⟩ = some (.int .i64 ba) ∧ w'.cell? ⟨b, o + j * 2, none⟩ = some (.int .i64 p) ∧ w'.cell? ⟨b, o + j * 2 + 1, none⟩ = some (.int .i64 q) ∧ w'.cell? ⟨b, o + m * 2, none⟩ = some (.int .i64 r) ∧ w'.cell? ⟨b, o + m * 2 + 1, none⟩ = some (.int .i64 s))) (by kernel_rfl) ⟨ba_60, va_60, x1_60, x2_60, x3_60, x4_60⟩ (fun hHeld => ?_)
                refine wpAnyH_take (i := 0) (v := ?_) rfl (by kernel_rfl) (by kernel_rfl) (by kernel_rfl) (fun _ _ _ h => h) (Or.inl ⟨by kernel_rfl, ?_⟩) hHeld ?_
                rotate_left
                · intro wz hSw
                  try dsimp only at hSw
                  first
                  | (go_simp; done)
                  | (go_simp; with_reducible rfl)
                try simp only [Act.put, List.setIfInBounds_toArray, List.set_cons_zero, List.set_cons_succ]
                refine wpAnyH_take (i := 1) (v := ?_) rfl (by kernel_rfl) (by kernel_rfl) (by kernel_rfl) (fun _ _ _ h => h) (Or.inl ⟨by kernel_rfl, ?_⟩) hHeld ?_
                rotate_left
                · intro wz hSw
                  try dsimp only at hSw
                  first
                  | (go_simp; done)
                  | (go_simp; with_reducible rfl)
                try simp only [Act.put, List.setIfInBounds_toArray, List.set_cons_zero, List.set_cons_succ]
                refine wpAnyH_take (i := 2) (v := .bool true) rfl (by kernel_rfl) (by kernel_rfl) (by kernel_rfl) (fun _ _ _ h => h) (Or.inl ⟨by kernel_rfl, ?_⟩) hHeld ?_
                · intro wz hSw
                  try dsimp only at hSw
                  first
                  | (go_simp; done)
                  | (go_simp; exact hjb)
                  | (go_simp; rw [hjb])
                  | (simp [hjb]; done)
                try simp only [Act.put, List.setIfInBounds_toArray, List.set_cons_zero, List.set_cons_succ]
                refine wpAnyH_take (i := 3) (v := ?_) rfl (by kernel_rfl) (by kernel_rfl) (by kernel_rfl) (fun _ _ _ h => h) (Or.inl ⟨by kernel_rfl, ?_⟩) hHeld ?_
                rotate_left
                · intro wz hSw
                  try dsimp only at hSw
                  first
                  | (go_simp; done)
                  | (go_simp; with_reducible rfl)
                try simp only [Act.put, List.setIfInBounds_toArray, List.set_cons_zero, List.set_cons_succ]
                refine wpAnyH_take (i := 4) (v := ?_) rfl (by kernel_rfl) (by kernel_rfl) (by kernel_rfl) (fun _ _ _ h => h) (Or.inl ⟨by kernel_rfl, ?_⟩) hHeld ?_
                rotate_left
                · intro wz hSw
                  try dsimp only at hSw
                  first
                  | (go_simp; done)
                  | (go_simp; with_reducible rfl)
                try simp only [Act.put, List.setIfInBounds_toArray, List.set_cons_zero, List.set_cons_succ]
                refine wpAnyH_take (i := 5) (v := ?_) rfl (by kernel_rfl) (by kernel_rfl) (by kernel_rfl) (fun _ _ _ h => h) (Or.inl ⟨by kernel_rfl, ?_⟩) hHeld ?_
                rotate_left
                · intro wz hSw
                  try dsimp only at hSw
                  first
                  | (go_simp; done)
                  | (go_simp; with_reducible rfl)
                try simp only [Act.put, List.setIfInBounds_toArray, List.set_cons_zero, List.set_cons_succ]
                refine wpAnyH_take (i := 6) (v := ?_) rfl (by kernel_rfl) (by kernel_rfl) (by kernel_rfl) (fun _ _ _ h => h) (Or.inl ⟨by kernel_rfl, ?_⟩) hHeld ?_
                rotate_left
                · intro wz hSw
                  try dsimp only at hSw
                  first
                  | (go_simp; done)
                  | (go_simp; with_reducible rfl)
                try simp only [Act.put, List.setIfInBounds_toArray, List.set_cons_zero, List.set_cons_succ]
                refine wpAnyH_take (i := 7) (v := ?_) rfl (by kernel_rfl) (by kernel_rfl) (by kernel_rfl) (fun _ _ _ h => h) (Or.inl ⟨by kernel_rfl, ?_⟩) hHeld ?_
                rotate_left
                · intro wz hSw
                  try dsimp only at hSw
                  first
                  | (go_simp; done)
                  | (go_simp; with_reducible rfl)
                try simp only [Act.put, List.setIfInBounds_toArray, List.set_cons_zero, List.set_cons_succ]
                refine wpAnyH_take (i := 8) (v := ?_) rfl (by kernel_rfl) (by kernel_rfl) (by kernel_rfl) (fun _ _ _ h => h) (Or.inl ⟨by kernel_rfl, ?_⟩) hHeld ?_
                rotate_left
                · intro wz hSw
                  try dsimp only at hSw
                  first
                  | (go_simp; done)
                  | (go_simp; with_reducible rfl)
                try simp only [Act.put, List.setIfInBounds_toArray, List.set_cons_zero, List.set_cons_succ]
                refine wpAnyH_take (i := 9) (v := ?_) rfl (by kernel_rfl) (by kernel_rfl) (by kernel_rfl) (fun _ _ _ h => h) (Or.inl ⟨by kernel_rfl, ?_⟩) hHeld ?_
                rotate_left
                · intro wz hSw
                  try dsimp only at hSw
                  first
                  | (go_simp; done)
                  | (go_simp; with_reducible rfl)
                try simp only [Act.put, List.setIfInBounds_toArray, List.set_cons_zero, List.set_cons_succ]
                refine wpAnyH_take (i := 10) (v := ?_) rfl (by kernel_rfl) (by kernel_rfl) (by kernel_rfl) (fun _ _ _ h => h) (Or.inl ⟨by kernel_rfl, ?_⟩) hHeld ?_
                rotate_left
                · intro wz hSw
                  try dsimp only at hSw
                  first
                  | (go_simp; done)
                  | (go_simp; with_reducible rfl)
                try simp only [Act.put, List.setIfInBounds_toArray, List.set_cons_zero, List.set_cons_succ]
                refine wpAnyH_take (i := 11) (v := ?_) rfl (by kernel_rfl) (by kernel_rfl) (by kernel_rfl) (fun _ _ _ h => h) (Or.inl ⟨by kernel_rfl, ?_⟩) hHeld ?_
                rotate_left
                · intro wz hSw
                  try dsimp only at hSw
                  first
                  | (go_simp; done)
                  | (go_simp; with_reducible rfl)
                try simp only [Act.put, List.setIfInBounds_toArray, List.set_cons_zero, List.set_cons_succ]
                refine wpAnyH_take (i := 12) (v := ?_) rfl (by kernel_rfl) (by kernel_rfl) (by kernel_rfl) (fun _ _ _ h => h) (Or.inl ⟨by kernel_rfl, ?_⟩) hHeld ?_
                rotate_left
                · intro wz hSw
                  try dsimp only at hSw
                  first
                  | (go_simp; done)
                  | (go_simp; with_reducible rfl)
                try simp only [Act.put, List.setIfInBounds_toArray, List.set_cons_zero, List.set_cons_succ]
                refine wpAnyH_ready (rs := [13]) (by kernel_rfl) (by simp) ?_
                refine AllReadyH.cons rfl (fun K hK => ?_) AllReadyH.nil
                go_simp
                refine (implCover_v dsa ba p q r s _ _ _ _ (Sa_60.out.drewN 1) (by omega) Ip Iq Ir Is HCV2.out).mono ?_
                rintro e w61 ⟨rfl, hb⟩
                replace hb : Below w60.heap.size w60 w61 := (by first | exact hb | exact undrew hb)
                have ba_61 := keep1 hb ba_60
                have va_61 := keep1 hb va_60
                have x1_61 := keep1 hb x1_60
                have x2_61 := keep1 hb x2_60
                have x3_61 := keep1 hb x3_60
                have x4_61 := keep1 hb x4_60
                have Sa_61 := Lib.hid ((Sa_60.out.below hb).call hb.size)
                have Ss_61 := Lib.hid ((Ss_60.out.below hb).call hb.size)
                have So_61 := Lib.hid ((So_60.out.below hb).call hb.size)
                have Sp_61 := Lib.hid ((Sp_60.out.below hb).call hb.size)
                have HB_61 : Hid (Below w.heap.size w w61) := Lib.hid (HB_60.out.trans (hb.mono HB_60.out.size))
                go_simp
                refine hK.out _ _ ⟨ba_61, va_61, x1_61, x2_61, x3_61, x4_61⟩ (fun hHeld => ?_)
                clear hK K
                try simp only [Act.put, List.setIfInBounds_toArray, List.set_cons_zero, List.set_cons_succ]
                refine wpAnyH_take (i := 14) (v := ?_) rfl (by kernel_rfl) (by kernel_rfl) (by kernel_rfl) (fun _ _ _ h => h) (Or.inl ⟨by kernel_rfl, ?_⟩) hHeld ?_
                rotate_left
                · intro wz hSw
                  try dsimp only at hSw
                  first
                  | (go_simp; done)
                  | (go_simp; with_reducible rfl)
                try simp only [Act.put, List.setIfInBounds_toArray, List.set_cons_zero, List.set_cons_succ]
                refine wpAnyH_done (by kernel_rfl) ?_ _
                try go_simp
                go_wp2
                go_roundw
                case rel => exact ⟨m + 1, by omega, by go_num, HB_61, Lib.hid ba_61, Lib.hid va_61, Sa_61, Ss_61, So_61, Sp_61⟩
                case measure => simp [intOf]; omega
            · obtain rfl : m = gs.length := by omega
              have hm9 : ¬ (gs.length : Int) < (gs.length : Int) := by omega
              go_wp2
              go_roundw
              case rel => exact ⟨j + 1, by omega, by go_num, hbel, Lib.hid y1, Lib.hid y2, hsa, hss, hso, hsp⟩
              case measure => simp [intOf]; omega
        · obtain rfl : j = gs.length := by omega
          have hm9 : ¬ (gs.length : Int) < (gs.length : Int) := by omega
          go_wp2
          go_ret
          exact ⟨rfl, hbel.out⟩

theorem lifted (os : Os) (started : os.Started) (H : Type) (enc : TypeId × Value → H) :
    ReturnsInHanded {} Try.checked os 6 .any (Rows.fnGreatestArmsSpec.pre6 enc Try.prog Try.f6 Rows.fnGreatestArmsRow.domain false) (Rows.fnGreatestArmsSpec.post enc Try.prog Try.f6 false true false false) := by
  refine returnsInHanded_of_change (C := Try.checked) own started (by kernel_rfl) Try.func6
    (ChangeSpec.witness6 (enc := enc) (C := Try.checked) false ⟨#[], #[.slice none 0 0], []⟩ 8 (by kernel_rfl) (by kernel_rfl) (by kernel_rfl) (by kernel_rfl)) ?_
  intro W base args ds gs before hval0 hW hcnd _
  have hval : ∀ (j : Nat) t v, Try.f6.params[j]? = some t → args[j]? = some v → Value.okWide Try.prog W .any base t v := hval0
  have hW' := hW
  obtain ⟨p, q, hA0, hV, rfl, hfz, hnd⟩ := hW
  have hA : DataW.TrodAll enc Try.prog W 0 (fun _ => true) true Try.f6.params.toList args.toList ds p := hA0
  rw [Try.params6] at hA hval
  obtain ⟨v0, vs0, d0, ds0, p0, q0, hargs, rfl, rfl, h0, r0⟩ := trodAll_cons hA
  obtain ⟨rfl, rfl, rfl⟩ := trodAll_nil r0
  obtain rfl : args = #[v0] := by cases args; simp_all
  obtain ⟨rfl, rfl⟩ := trodVars_none hV
  have k0 := h0
  have lt0 : ∀ x ∈ p0, x.block < W.heap.size := by obtain ⟨m, hm⟩ := k0; exact DataW.trod_lt m _ _ _ hm
  obtain ⟨A0, n0, c0, l0, rfl, w0⟩ := open_code (hval 0 42 v0 rfl rfl) h0
  clear hA0 hval0
  refine (walk A0 n0 c0 l0 W w0).mono fun e W' ⟨he, bel⟩ => ?_
  subst he
  exact ⟨_, rfl, _, _, _, [], _, [], hW', trodAll_mk1 (shut_bool Try.underlying4 _), (trodAll_cons_mk (Below.trod laidOut (by kernel_rfl) (of_decide_eq_true (by kernel_rfl)) k0 bel lt0) trodAll_mk0), rfl, bel.frame _, fun h => by cases h⟩

theorem over : Rows.fnGreatestArmsRow.holds Try.pinned (OpenSpec.ofChange Rows.fnGreatestArmsSpec) :=
  OpenClaim.holds_of_wide 6 Try.f6 rfl rfl rfl rfl rfl rfl rfl ⟨rfl, rfl, rfl, rfl, rfl⟩ rfl rfl rfl rfl rfl (by kernel_rfl) Try.func6 (by kernel_rfl)
    (of_decide_eq_true (by kernel_rfl)) (by unfold Func.isWrapper; first | (rw [if_pos (by decide +kernel)]; kernel_rfl) | (rw [if_neg (by decide +kernel)]; exact ⟨rfl, rfl⟩))
    (fun os started H enc _ => lifted os started H enc)

theorem proved : Rows.FnGreatestArmsSaid := over
end Go.Proofs.Ytpmanbmhbfnefaa.fnGreatestArms
