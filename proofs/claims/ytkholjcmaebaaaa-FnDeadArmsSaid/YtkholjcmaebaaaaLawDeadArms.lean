/-
For every code the law of dead arms that can be left out returns true: the program's DeadArms answers as its model, without them FirstMissed is the same, and no arm is dead then.
Conditions: none.
-/
import Derived.Test.YtkholjcmaebaaaaGenAd
import Derived.Test.YtkholjcmaebaaaaOpenC
import Derived.Test.YtkholjcmaebaaaaLArs
import Derived.Test.YtkholjcmaebaaaaLIn
import Derived.Test.YtkholjcmaebaaaaLHelp
import Derived.Test.YtkholjcmaebaaaaArmZ
import Derived.Test.YtkholjcmaebaaaaArmY
namespace Go.Proofs.Ytkholjcmaebaaaa.fnDeadArms
open Go.ChangeShapes Go.WideShapes Go.ChangeAt Go.RowKit
open Go.ChangeMaps (open_string shut_string)
set_option linter.unusedVariables false
set_option linter.unusedSimpArgs false
set_option maxRecDepth 100000

set_option maxHeartbeats 16000000 in
theorem walk (A : Option Addr) (n c : Nat) (zs : List Int) (w : World) (h : SB w w.heap.size A n c zs) :
    Calls Try.prog 7 #[.slice A n c] w fun e w' => e = .returned (.bool true) ∧ Below w.heap.size w w' := by
  have hm := h.max
  have hcap := h.cap
  unfold maxLen at hm
  have HS0 := Lib.hid h
  clear h
  by_cases hbig : 1048576 < (n : Int)
  · go_enter Try.func7, Try.ntmps7
    go_wp2
    go_ret
    exact ⟨rfl, Below.refl _ _⟩
  go_enter Try.func7, Try.ntmps7
  go_wp2_with fail
  refine (drawDeadArms_s A n c zs _ HS0.out).mono ?_
  rintro e w1 ⟨Aa, ca, dsa, ba, As, cs, rs, rfl, hna, hsma, hbda, hrl, hrs, hsa, hss, hb⟩
  have HB_1 := Lib.hid hb
  have Sa_1 := Lib.hid hsa
  have HSMa := Lib.hid hsma
  have HOKa : Hid (∀ d ∈ dsa, d.ok) := Lib.hid (fun d hd => small_ok (hsma d hd))
  have HBDa := Lib.hid hbda
  have Ss_1 := Lib.hid hss
  clear hb hsa hsma hbda hss
  obtain ⟨w2, hw⟩ : ∃ W : World, W = (w1.alloc (.cells #[.slice Aa dsa.length ca, .int .i64 ba] 25)) := ⟨_, rfl⟩
  have hb : Below w1.heap.size w1 w2 := by rw [hw]; exact ((Below.refl _ _).alloc (by first | exact Nat.le_refl _ | (simp; done) | (simp; omega)) _)
  have Sa_2 := Lib.hid ((Sa_1.out.below hb).call hb.size)
  have Ss_2 := Lib.hid ((Ss_1.out.below hb).call hb.size)
  have HB_2 : Hid (Below w.heap.size w w2) := Lib.hid (HB_1.out.trans (hb.mono HB_1.out.size))
  have ba_2 : w2.cell? ⟨w1.heap.size, 0, none⟩ = some (.slice Aa dsa.length ca) := by rw [hw]; simp [go_sem]
  have va_2 : w2.cell? ⟨w1.heap.size, 1, none⟩ = some (.int .i64 ba) := by rw [hw]; simp [go_sem]
  have lf_ba : (w1.alloc (.cells #[.slice Aa dsa.length ca, .int .i64 ba] 25)).cell? ⟨w1.heap.size, 0, none⟩ = some (.slice Aa dsa.length ca) := by rw [← hw]; exact ba_2
  have lf_va : (w1.alloc (.cells #[.slice Aa dsa.length ca, .int .i64 ba] 25)).cell? ⟨w1.heap.size, 1, none⟩ = some (.int .i64 ba) := by rw [← hw]; exact va_2
  have HW2 : Hid ((w1.alloc (.cells #[.slice Aa dsa.length ca, .int .i64 ba] 25)) = w2) := Lib.hid hw.symm
  clear hb hw Sa_1 Ss_1 HB_1
  obtain ⟨os, hos⟩ : ∃ os, mDead dsa ba rs = os := ⟨_, rfl⟩
  obtain ⟨r, hr⟩ : ∃ r, mMissed dsa ba rs = r := ⟨_, rfl⟩
  have HR := Lib.hid hr
  have HOS := Lib.hid hos
  have ho10 : os.length ≤ 10 := by rw [← hos]; exact mDead_len _ _ _
  have OKO : Hid (∀ t ∈ os, -9223372036854775808 ≤ t ∧ t ≤ 9223372036854775807) := Lib.hid (by rw [← hos]; exact mDead_ok _ _ _)
  have OKR : Hid (∀ a ∈ rs, a.ok) := Lib.hid (fun a ha => Ar.small_ok (hrs a ha))
  have HIM : Hid (∀ (A : Option Addr) (m c : Nat) (w : World) (As : Option Addr) (q cs : Nat), SD w w.heap.size A m c dsa → SA w w.heap.size As q cs rs → m ≤ 1048576 → Calls Try.prog 32 #[.agg #[.slice A m c, .int .i64 ba], .slice As q cs] w (IntsP os w)) := Lib.hid (by rw [← hos]; exact fun A m c w As q cs h1 h2 h3 => implDead_any dsa ba rs A m c w h1 As q cs h2 h3)
  have HSP : Hid (∀ (A : Option Addr) (m c : Nat) (w : World) (As : Option Addr) (q cs : Nat), SD w w.heap.size A m c dsa → SA w w.heap.size As q cs rs → Calls Try.prog 34 #[.agg #[.slice A m c, .int .i64 ba], .slice As q cs] w (IntsP os w)) := Lib.hid (by rw [← hos]; exact fun A m c w As q cs h1 h2 => specDead_any dsa ba rs A m c w h1 As q cs h2)
  unfold IntsP at HIM HSP
  clear hr hos hrs
  go_wp2_with fail
  rw [HW2.out]
  clear lf_ba lf_va
  refine (HIM.out _ _ _ _ _ _ _ Sa_2.out Ss_2.out (by omega)).mono ?_
  rintro e w3 ⟨Ao, co, rfl, ho, hb⟩
  have ba_3 := keep1 hb ba_2
  have va_3 := keep1 hb va_2
  have Sa_3 := Lib.hid ((Sa_2.out.below hb).call hb.size)
  have Ss_3 := Lib.hid ((Ss_2.out.below hb).call hb.size)
  have HB_3 : Hid (Below w.heap.size w w3) := Lib.hid (HB_2.out.trans (hb.mono HB_2.out.size))
  have So_3 := Lib.hid (si_of_own ho OKO.out)
  clear hb ho ba_2 va_2 Sa_2 Ss_2 HB_2
  go_wp2_with fail
  refine (HSP.out _ _ _ _ _ _ _ Sa_3.out Ss_3.out).mono ?_
  rintro e w4 ⟨Aw, cw, rfl, ho, hb⟩
  have ba_4 := keep1 hb ba_3
  have va_4 := keep1 hb va_3
  have Sa_4 := Lib.hid ((Sa_3.out.below hb).call hb.size)
  have Ss_4 := Lib.hid ((Ss_3.out.below hb).call hb.size)
  have So_4 := Lib.hid ((So_3.out.below hb).call hb.size)
  have HB_4 : Hid (Below w.heap.size w w4) := Lib.hid (HB_3.out.trans (hb.mono HB_3.out.size))
  have Sw_4 := Lib.hid (si_of_own ho OKO.out)
  clear hb ho ba_3 va_3 Sa_3 Ss_3 So_3 HB_3
  go_wp2_with fail
  refine (equalInts_any os _ _ _ _ _ _ _ So_4.out Sw_4.out).mono ?_
  rintro e w5 ⟨rfl, hb⟩
  have ba_5 := keep1 hb ba_4
  have va_5 := keep1 hb va_4
  have Sa_5 := Lib.hid ((Sa_4.out.below hb).call hb.size)
  have Ss_5 := Lib.hid ((Ss_4.out.below hb).call hb.size)
  have So_5 := Lib.hid ((So_4.out.below hb).call hb.size)
  have Sw_5 := Lib.hid ((Sw_4.out.below hb).call hb.size)
  have HB_5 : Hid (Below w.heap.size w w5) := Lib.hid (HB_4.out.trans (hb.mono HB_4.out.size))
  clear hb  ba_4 va_4 Sa_4 Ss_4 So_4 Sw_4 HB_4
  clear Sw_5
  go_wp2_with fail
  refine (implMissed_v dsa ba rs _ _ _ _ Sa_5.out _ _ _ Ss_5.out (by omega) HR.out).mono ?_
  rintro e w6 ⟨rfl, hb⟩
  have ba_6 := keep1 hb ba_5
  have va_6 := keep1 hb va_5
  have Sa_6 := Lib.hid ((Sa_5.out.below hb).call hb.size)
  have Ss_6 := Lib.hid ((Ss_5.out.below hb).call hb.size)
  have So_6 := Lib.hid ((So_5.out.below hb).call hb.size)
  have HB_6 : Hid (Below w.heap.size w w6) := Lib.hid (HB_5.out.trans (hb.mono HB_5.out.size))
  clear hb  ba_5 va_5 Sa_5 Ss_5 So_5 HB_5
  by_cases h2 : r = -2
  · subst h2
    go_wp2_with fail
    refine (HSP.out _ _ _ _ _ _ _ Sa_6.out Ss_6.out).mono ?_
    rintro e w7 ⟨Av, cv, rfl, ho, hb⟩
    have ba_7 := keep1 hb ba_6
    have va_7 := keep1 hb va_6
    have Sa_7 := Lib.hid ((Sa_6.out.below hb).call hb.size)
    have Ss_7 := Lib.hid ((Ss_6.out.below hb).call hb.size)
    have So_7 := Lib.hid ((So_6.out.below hb).call hb.size)
    have HB_7 : Hid (Below w.heap.size w w7) := Lib.hid (HB_6.out.trans (hb.mono HB_6.out.size))
    have Sv_7 := Lib.hid (si_of_own ho OKO.out)
    clear hb ho ba_6 va_6 Sa_6 Ss_6 So_6 HB_6
    go_wp2_with fail
    refine (equalInts_any os _ _ _ _ _ _ _ So_7.out Sv_7.out).mono ?_
    rintro e w8 ⟨rfl, hb⟩
    have ba_8 := keep1 hb ba_7
    have va_8 := keep1 hb va_7
    have Sa_8 := Lib.hid ((Sa_7.out.below hb).call hb.size)
    have Ss_8 := Lib.hid ((Ss_7.out.below hb).call hb.size)
    have So_8 := Lib.hid ((So_7.out.below hb).call hb.size)
    have Sv_8 := Lib.hid ((Sv_7.out.below hb).call hb.size)
    have HB_8 : Hid (Below w.heap.size w w8) := Lib.hid (HB_7.out.trans (hb.mono HB_7.out.size))
    clear hb  ba_7 va_7 Sa_7 Ss_7 So_7 Sv_7 HB_7
    go_wp2
    go_ret
    exact ⟨by first | rfl | kernel_rfl | (go_simp; done), HB_8.out⟩
  have e0 : (r == -2) = false := by rw [beq_eq_false_iff_ne]; exact h2
  have hF := dead_law (by rw [HR.out]; exact h2)
  rw [HOS.out, HR.out] at hF
  obtain ⟨fw, hfw⟩ : ∃ fw, fewTo rs (mMask dsa) = fw := ⟨_, rfl⟩
  rw [hfw] at hF
  have HF := Lib.hid hF
  have OKF : Hid (∀ k, ∀ a ∈ fw k, a.ok) := Lib.hid (fun k a ha => OKR.out a (hF.sub k a ha))
  have HD0 : Hid (∀ (A : Option Addr) (m c : Nat) (w : World) (As : Option Addr) (q cs : Nat), SD w w.heap.size A m c dsa → SA w w.heap.size As q cs (fw rs.length) → m ≤ 1048576 → Calls Try.prog 32 #[.agg #[.slice A m c, .int .i64 ba], .slice As q cs] w (IntsP [] w)) := Lib.hid (by rw [← hF.dead]; exact fun A m c w As q cs h1 h2 h3 => implDead_any dsa ba (fw rs.length) A m c w h1 As q cs h2 h3)
  unfold IntsP at HD0
  have HSAME := Lib.hid hF.same
  have HUP := Lib.hid hF.up
  clear hF h2 HOS HIM HSP hfw
  go_wp2_with fail
  have HO0 : Hid ((w6.alloc (.cells #[] 40)).ownsRow w6.heap.size 40 2 (.slice (some ⟨w6.heap.size, 0, none⟩) 0 0) (fw 0).length (flatA (fw 0))) := Lib.hid (by rw [HF.out.zero]; exact World.ownsRow_made w6 #[] 0 (Nat.le_refl _) (by unfold maxLen; omega) rfl)
  have HB0 : Hid (Below w6.heap.size w6 (w6.alloc (.cells #[] 40))) := Lib.hid ((Below.refl _ _).alloc (Nat.le_refl _) _)
  have HC0 : Hid ((w6.alloc (.cells #[] 40)).heap.size = w6.heap.size + 1) := Lib.hid (by simp)
  have hl0 : (fw 0).length = 0 := by rw [HF.out.zero]; rfl
  rw [hl0] at HO0
  go_wp2
  go_loopw [6, 7] (fun v i wr => ∃ k n : Nat, k ≤ rs.length ∧ i = .int .i64 k ∧ Hid ((fw k).length = n) ∧ Hid (wr.ownsRow w6.heap.size 40 2 v n (flatA (fw k))) ∧ Hid (Below w6.heap.size w6 wr)) (fun _ i _ => rs.length - (intOf i).toNat)
  case atStart => exact ⟨0, 0, Nat.zero_le _, rfl, Lib.hid hl0, HO0, HB0⟩
  case round =>
    clear HO0 HB0 HC0 hl0
    obtain ⟨k, n, hk, rfl, hln, hown, hbel⟩ := hrel
    obtain ⟨Af, cf, hvf⟩ := own_form hown.out
    subst hvf
    have hzr := hbel.out.size
    have q2 := Lib.hid ((Ss_6.out.below hbel.out).call hbel.out.size)
    have q3 := Lib.hid ((So_6.out.below hbel.out).call hbel.out.size)
    have hn10 : n ≤ rs.length := by have := HF.out.len k; have := hln.out; omega
    by_cases hlt : k < rs.length
    · obtain ⟨v, hv, hv1, hv2⟩ := HF.out.step k hlt
      have HV := Lib.hid hv
      have HV1 := Lib.hid hv1
      have HV2 := Lib.hid hv2
      clear hv hv1 hv2
      have hi1 : (k : Int) < (rs.length : Int) := by omega
      have hi0 : (0 : Int) ≤ (k : Int) := by omega
      go_wp2_with fail
      refine (isIn_any os k _ _ _ _ q3.out HV.out).mono ?_
      rintro e w50 ⟨rfl, hb⟩
      have hown5 := Lib.hid (own_below hown.out hb)
      have hbel5 : Hid (Below w6.heap.size w6 w50) := Lib.hid (hbel.out.trans (hb.mono hbel.out.size))
      have q5 := Lib.hid ((q2.out.below hb).call hb.size)
      have hz5 : wr.heap.size ≤ w50.heap.size := hb.size
      clear hb hown hbel q2 q3
      cases v
      · obtain ⟨b, o, hA, hbb, x1, x2⟩ := q5.out.at_ hlt
        subst hA
        have hst := HV2.out rfl
        generalize rs[k] = a at *
        obtain ⟨x, y⟩ := a
        have HST := Lib.hid hst
        have hl1 : (fw (k + 1)).length = n + 1 := by rw [hst, List.length_append, hln.out]; rfl
        have HL1 := Lib.hid hl1
        clear hst hl1
        go_wp2_with (at_builtin; refine wpList_app_A rfl _ _ rfl w6.heap.size _ _ _ rfl hown5.out _ _ _ _ rfl (by first | rfl | simp) (by omega) (by omega) ?_; intro v' w9 ho9 hb9; have HO9 := Lib.hid ho9; have HB9 : Hid (Below w6.heap.size w6 w9) := Lib.hid (hbel5.out.trans hb9); clear ho9 hb9)
        go_roundw
        case rel => exact ⟨k + 1, n + 1, by omega, by go_num, HL1, Lib.hid (by rw [HST.out, flatA_app]; exact HO9.out), HB9⟩
        case measure => simp [intOf]; omega
      · have hst := HV1.out rfl
        have HST := Lib.hid hst
        clear hst
        go_wp2
        go_roundw
        case rel => exact ⟨k + 1, n, by omega, by go_num, Lib.hid (by rw [HST.out]; exact hln.out), Lib.hid (by rw [HST.out]; exact hown5.out), hbel5⟩
        case measure => simp [intOf]; omega
    · obtain rfl : k = rs.length := by omega
      have hi9 : ¬ (rs.length : Int) < (rs.length : Int) := by omega
      have Sf0 : Hid (SA wr wr.heap.size Af n cf (fw rs.length)) := Lib.hid (sa_of_own hown.out (OKF.out _))
      have hb := hbel.out
      clear q2 q3 hown hbel
      obtain ⟨w70, hwn⟩ : ∃ W : World, W = wr := ⟨_, rfl⟩
      subst hwn
      have ba_70 := keep1 hb ba_6
      have va_70 := keep1 hb va_6
      have Sa_70 := Lib.hid ((Sa_6.out.below hb).call hb.size)
      have Ss_70 := Lib.hid ((Ss_6.out.below hb).call hb.size)
      have So_70 := Lib.hid ((So_6.out.below hb).call hb.size)
      have HB_70 : Hid (Below w.heap.size w w70) := Lib.hid (HB_6.out.trans (hb.mono HB_6.out.size))
      have Sf_70 := Sf0
      clear hb Sf0
      go_wp2_with fail
      go_region_held3 (fun w' => w'.cell? ⟨w1.heap.size, 0, none⟩ = some (.slice Aa dsa.length ca) ∧ w'.cell? ⟨w1.heap.size, 1, none⟩ = some (.int .i64 ba))
        (first | go_keep | exact ⟨ba_70, va_70⟩ | exact ⟨ba_71, va_71⟩ | exact ⟨ba_72, va_72⟩ | exact ⟨ba_73, va_73⟩ | exact ⟨ba_74, va_74⟩)
        (first
          | (go_at_call 36; refine (ascends_any os _ _ _ _ (So_70.out.drewN 1) HUP.out).mono ?_; rintro e w71 ⟨rfl, hb⟩; replace hb : Below w70.heap.size w70 w71 := (by first | exact hb | exact undrew hb); have ba_71 := keep1 hb ba_70; have va_71 := keep1 hb va_70; have Sa_71 := Lib.hid ((Sa_70.out.below hb).call hb.size); have Ss_71 := Lib.hid ((Ss_70.out.below hb).call hb.size); have So_71 := Lib.hid ((So_70.out.below hb).call hb.size); have Sf_71 := Lib.hid ((Sf_70.out.below hb).call hb.size); have HB_71 : Hid (Below w.heap.size w w71) := Lib.hid (HB_70.out.trans (hb.mono HB_70.out.size)); clear hb)
          | (go_at_call_of 26 Af; refine (implMissed_v dsa ba (fw rs.length) _ _ _ _ Sa_71.out _ _ _ Sf_71.out (by omega) HSAME.out).mono ?_; rintro e w72 ⟨rfl, hb⟩; have ba_72 := keep1 hb ba_71; have va_72 := keep1 hb va_71; have Sa_72 := Lib.hid ((Sa_71.out.below hb).call hb.size); have Ss_72 := Lib.hid ((Ss_71.out.below hb).call hb.size); have So_72 := Lib.hid ((So_71.out.below hb).call hb.size); have Sf_72 := Lib.hid ((Sf_71.out.below hb).call hb.size); have HB_72 : Hid (Below w.heap.size w w72) := Lib.hid (HB_71.out.trans (hb.mono HB_71.out.size)); clear hb)
          | (go_at_call_of 26 As; refine (implMissed_v dsa ba (rs) _ _ _ _ Sa_72.out _ _ _ Ss_72.out (by omega) HR.out).mono ?_; rintro e w73 ⟨rfl, hb⟩; have ba_73 := keep1 hb ba_72; have va_73 := keep1 hb va_72; have Sa_73 := Lib.hid ((Sa_72.out.below hb).call hb.size); have Ss_73 := Lib.hid ((Ss_72.out.below hb).call hb.size); have So_73 := Lib.hid ((So_72.out.below hb).call hb.size); have Sf_73 := Lib.hid ((Sf_72.out.below hb).call hb.size); have HB_73 : Hid (Below w.heap.size w w73) := Lib.hid (HB_72.out.trans (hb.mono HB_72.out.size)); clear hb)
          | (go_at_call 32; refine (HD0.out _ _ _ _ _ _ _ Sa_73.out Sf_73.out (by omega)).mono ?_; rintro e w74 ⟨Ad, cd, rfl, ho, hb⟩; have ba_74 := keep1 hb ba_73; have va_74 := keep1 hb va_73; have Sa_74 := Lib.hid ((Sa_73.out.below hb).call hb.size); have Ss_74 := Lib.hid ((Ss_73.out.below hb).call hb.size); have So_74 := Lib.hid ((So_73.out.below hb).call hb.size); have Sf_74 := Lib.hid ((Sf_73.out.below hb).call hb.size); have HB_74 : Hid (Below w.heap.size w w74) := Lib.hid (HB_73.out.trans (hb.mono HB_73.out.size)); clear ho; clear hb))
      go_wp2
      go_ret
      exact ⟨by first | rfl | kernel_rfl | (go_simp; done), HB_74.out⟩

theorem lifted (os : Os) (started : os.Started) (H : Type) (enc : TypeId × Value → H) :
    ReturnsInHanded {} Try.checked os 7 .any (Rows.fnDeadArmsSpec.pre6 enc Try.prog Try.f7 Rows.fnDeadArmsRow.domain false) (Rows.fnDeadArmsSpec.post enc Try.prog Try.f7 false true false false) := by
  refine returnsInHanded_of_change (C := Try.checked) own started (by kernel_rfl) Try.func7
    (ChangeSpec.witness6 (enc := enc) (C := Try.checked) false ⟨#[], #[.slice none 0 0], []⟩ 8 (by kernel_rfl) (by kernel_rfl) (by kernel_rfl) (by kernel_rfl)) ?_
  intro W base args ds gs before hval0 hW hcnd _
  have hval : ∀ (j : Nat) t v, Try.f7.params[j]? = some t → args[j]? = some v → Value.okWide Try.prog W .any base t v := hval0
  have hW' := hW
  obtain ⟨p, q, hA0, hV, rfl, hfz, hnd⟩ := hW
  have hA : DataW.TrodAll enc Try.prog W 0 (fun _ => true) true Try.f7.params.toList args.toList ds p := hA0
  rw [Try.params7] at hA hval
  obtain ⟨v0, vs0, d0, ds0, p0, q0, hargs, rfl, rfl, h0, r0⟩ := trodAll_cons hA
  obtain ⟨rfl, rfl, rfl⟩ := trodAll_nil r0
  obtain rfl : args = #[v0] := by cases args; simp_all
  obtain ⟨rfl, rfl⟩ := trodVars_none hV
  have k0 := h0
  have lt0 : ∀ x ∈ p0, x.block < W.heap.size := by obtain ⟨m, hm⟩ := k0; exact DataW.trod_lt m _ _ _ hm
  obtain ⟨A0, n0, c0, l0, rfl, w0⟩ := open_code (hval 0 22 v0 rfl rfl) h0
  clear hA0 hval0
  refine (walk A0 n0 c0 l0 W w0).mono fun e W' ⟨he, bel⟩ => ?_
  subst he
  exact ⟨_, rfl, _, _, _, [], _, [], hW', trodAll_mk1 (shut_bool Try.underlying4 _), (trodAll_cons_mk (Below.trod laidOut (by kernel_rfl) (of_decide_eq_true (by kernel_rfl)) k0 bel lt0) trodAll_mk0), rfl, bel.frame _, fun h => by cases h⟩

theorem over : Rows.fnDeadArmsRow.holds Try.pinned (OpenSpec.ofChange Rows.fnDeadArmsSpec) :=
  OpenClaim.holds_of_wide 7 Try.f7 rfl rfl rfl rfl rfl rfl rfl ⟨rfl, rfl, rfl, rfl, rfl⟩ rfl rfl rfl rfl rfl (by kernel_rfl) Try.func7 (by kernel_rfl)
    (of_decide_eq_true (by kernel_rfl)) (by unfold Func.isWrapper; first | (rw [if_pos (by decide +kernel)]; kernel_rfl) | (rw [if_neg (by decide +kernel)]; exact ⟨rfl, rfl⟩))
    (fun os started H enc _ => lifted os started H enc)

theorem proved : Rows.FnDeadArmsSaid := over
end Go.Proofs.Ytkholjcmaebaaaa.fnDeadArms
