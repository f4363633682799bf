/-
For every code the law of covered arms that are dead returns true: the program's DeadArms answers as its model, has each arm that one ahead of it covers, and never the first one.
Conditions: none.
-/
import Derived.Test.YtkholjcmaebaaaaGenAd
import Derived.Test.YtkholjcmaebaaaaOpenC
import Derived.Test.YtkholjcmaebaaaaLArs
import Derived.Test.YtkholjcmaebaaaaLIn
import Derived.Test.YtkholjcmaebaaaaLHelp
import Derived.Test.YtkholjcmaebaaaaArmZ
import Derived.Test.YtkholjcmaebaaaaArmY
import Derived.Test.YtkholjcmaebaaaaArmU
namespace Go.Proofs.Ytkholjcmaebaaaa.fnDeadArmsCover
open Go.ChangeShapes Go.WideShapes Go.ChangeAt Go.RowKit
open Go.ChangeMaps (open_string shut_string)
set_option linter.unusedVariables false
set_option linter.unusedSimpArgs false
set_option maxRecDepth 100000

set_option maxHeartbeats 16000000 in
theorem walk (A : Option Addr) (n c : Nat) (zs : List Int) (w : World) (h : SB w w.heap.size A n c zs) :
    Calls Try.prog 8 #[.slice A n c] w fun e w' => e = .returned (.bool true) ∧ Below w.heap.size w w' := by
  have hm := h.max
  have hcap := h.cap
  unfold maxLen at hm
  have HS0 := Lib.hid h
  clear h
  by_cases hbig : 1048576 < (n : Int)
  · go_enter Try.func8, Try.ntmps8
    go_wp2
    go_ret
    exact ⟨rfl, Below.refl _ _⟩
  go_enter Try.func8, Try.ntmps8
  go_wp2_with fail
  refine (drawDeadArms_s A n c zs _ HS0.out).mono ?_
  rintro e w1 ⟨Aa, ca, dsa, ba, As, cs, rs, rfl, hna, hsma, hbda, hrl, hrs, hsa, hss, hb⟩
  have HB_1 := Lib.hid hb
  have Sa_1 := Lib.hid hsa
  have HSMa := Lib.hid hsma
  have HOKa : Hid (∀ d ∈ dsa, d.ok) := Lib.hid (fun d hd => small_ok (hsma d hd))
  have HBDa := Lib.hid hbda
  have Ss_1 := Lib.hid hss
  clear hb hsa hsma hbda hss
  obtain ⟨w2, hw⟩ : ∃ W : World, W = (w1.alloc (.cells #[.slice Aa dsa.length ca, .int .i64 ba] 25)) := ⟨_, rfl⟩
  have hb : Below w1.heap.size w1 w2 := by rw [hw]; exact ((Below.refl _ _).alloc (by first | exact Nat.le_refl _ | (simp; done) | (simp; omega)) _)
  have Sa_2 := Lib.hid ((Sa_1.out.below hb).call hb.size)
  have Ss_2 := Lib.hid ((Ss_1.out.below hb).call hb.size)
  have HB_2 : Hid (Below w.heap.size w w2) := Lib.hid (HB_1.out.trans (hb.mono HB_1.out.size))
  have ba_2 : w2.cell? ⟨w1.heap.size, 0, none⟩ = some (.slice Aa dsa.length ca) := by rw [hw]; simp [go_sem]
  have va_2 : w2.cell? ⟨w1.heap.size, 1, none⟩ = some (.int .i64 ba) := by rw [hw]; simp [go_sem]
  have lf_ba : (w1.alloc (.cells #[.slice Aa dsa.length ca, .int .i64 ba] 25)).cell? ⟨w1.heap.size, 0, none⟩ = some (.slice Aa dsa.length ca) := by rw [← hw]; exact ba_2
  have lf_va : (w1.alloc (.cells #[.slice Aa dsa.length ca, .int .i64 ba] 25)).cell? ⟨w1.heap.size, 1, none⟩ = some (.int .i64 ba) := by rw [← hw]; exact va_2
  have HW2 : Hid ((w1.alloc (.cells #[.slice Aa dsa.length ca, .int .i64 ba] 25)) = w2) := Lib.hid hw.symm
  clear hb hw Sa_1 Ss_1 HB_1
  obtain ⟨os, hos⟩ : ∃ os, mDead dsa ba rs = os := ⟨_, rfl⟩
  obtain ⟨r, hr⟩ : ∃ r, mMissed dsa ba rs = r := ⟨_, rfl⟩
  have HR := Lib.hid hr
  have HOS := Lib.hid hos
  have ho10 : os.length ≤ 10 := by rw [← hos]; exact mDead_len _ _ _
  have OKO : Hid (∀ t ∈ os, -9223372036854775808 ≤ t ∧ t ≤ 9223372036854775807) := Lib.hid (by rw [← hos]; exact mDead_ok _ _ _)
  have OKR : Hid (∀ a ∈ rs, a.ok) := Lib.hid (fun a ha => Ar.small_ok (hrs a ha))
  have HIM : Hid (∀ (A : Option Addr) (m c : Nat) (w : World) (As : Option Addr) (q cs : Nat), SD w w.heap.size A m c dsa → SA w w.heap.size As q cs rs → m ≤ 1048576 → Calls Try.prog 32 #[.agg #[.slice A m c, .int .i64 ba], .slice As q cs] w (IntsP os w)) := Lib.hid (by rw [← hos]; exact fun A m c w As q cs h1 h2 h3 => implDead_any dsa ba rs A m c w h1 As q cs h2 h3)
  have HSP : Hid (∀ (A : Option Addr) (m c : Nat) (w : World) (As : Option Addr) (q cs : Nat), SD w w.heap.size A m c dsa → SA w w.heap.size As q cs rs → Calls Try.prog 34 #[.agg #[.slice A m c, .int .i64 ba], .slice As q cs] w (IntsP os w)) := Lib.hid (by rw [← hos]; exact fun A m c w As q cs h1 h2 => specDead_any dsa ba rs A m c w h1 As q cs h2)
  unfold IntsP at HIM HSP
  clear hr hos hrs
  go_wp2_with fail
  rw [HW2.out]
  clear lf_ba lf_va
  refine (HIM.out _ _ _ _ _ _ _ Sa_2.out Ss_2.out (by omega)).mono ?_
  rintro e w3 ⟨Ao, co, rfl, ho, hb⟩
  have ba_3 := keep1 hb ba_2
  have va_3 := keep1 hb va_2
  have Sa_3 := Lib.hid ((Sa_2.out.below hb).call hb.size)
  have Ss_3 := Lib.hid ((Ss_2.out.below hb).call hb.size)
  have HB_3 : Hid (Below w.heap.size w w3) := Lib.hid (HB_2.out.trans (hb.mono HB_2.out.size))
  have So_3 := Lib.hid (si_of_own ho OKO.out)
  clear hb ho ba_2 va_2 Sa_2 Ss_2 HB_2
  go_wp2_with fail
  refine (HSP.out _ _ _ _ _ _ _ Sa_3.out Ss_3.out).mono ?_
  rintro e w4 ⟨Aw, cw, rfl, ho, hb⟩
  have ba_4 := keep1 hb ba_3
  have va_4 := keep1 hb va_3
  have Sa_4 := Lib.hid ((Sa_3.out.below hb).call hb.size)
  have Ss_4 := Lib.hid ((Ss_3.out.below hb).call hb.size)
  have So_4 := Lib.hid ((So_3.out.below hb).call hb.size)
  have HB_4 : Hid (Below w.heap.size w w4) := Lib.hid (HB_3.out.trans (hb.mono HB_3.out.size))
  have Sw_4 := Lib.hid (si_of_own ho OKO.out)
  clear hb ho ba_3 va_3 Sa_3 Ss_3 So_3 HB_3
  go_wp2_with fail
  refine (equalInts_any os _ _ _ _ _ _ _ So_4.out Sw_4.out).mono ?_
  rintro e w5 ⟨rfl, hb⟩
  have ba_5 := keep1 hb ba_4
  have va_5 := keep1 hb va_4
  have Sa_5 := Lib.hid ((Sa_4.out.below hb).call hb.size)
  have Ss_5 := Lib.hid ((Ss_4.out.below hb).call hb.size)
  have So_5 := Lib.hid ((So_4.out.below hb).call hb.size)
  have Sw_5 := Lib.hid ((Sw_4.out.below hb).call hb.size)
  have HB_5 : Hid (Below w.heap.size w w5) := Lib.hid (HB_4.out.trans (hb.mono HB_4.out.size))
  clear hb  ba_4 va_4 Sa_4 Ss_4 So_4 Sw_4 HB_4
  clear Sw_5
  go_wp2_with fail
  refine (implMissed_v dsa ba rs _ _ _ _ Sa_5.out _ _ _ Ss_5.out (by omega) HR.out).mono ?_
  rintro e w6 ⟨rfl, hb⟩
  have ba_6 := keep1 hb ba_5
  have va_6 := keep1 hb va_5
  have Sa_6 := Lib.hid ((Sa_5.out.below hb).call hb.size)
  have Ss_6 := Lib.hid ((Ss_5.out.below hb).call hb.size)
  have So_6 := Lib.hid ((So_5.out.below hb).call hb.size)
  have HB_6 : Hid (Below w.heap.size w w6) := Lib.hid (HB_5.out.trans (hb.mono HB_5.out.size))
  clear hb  ba_5 va_5 Sa_5 Ss_5 So_5 HB_5
  by_cases h2 : r = -2
  · subst h2
    go_wp2_with fail
    refine (HSP.out _ _ _ _ _ _ _ Sa_6.out Ss_6.out).mono ?_
    rintro e w7 ⟨Av, cv, rfl, ho, hb⟩
    have ba_7 := keep1 hb ba_6
    have va_7 := keep1 hb va_6
    have Sa_7 := Lib.hid ((Sa_6.out.below hb).call hb.size)
    have Ss_7 := Lib.hid ((Ss_6.out.below hb).call hb.size)
    have So_7 := Lib.hid ((So_6.out.below hb).call hb.size)
    have HB_7 : Hid (Below w.heap.size w w7) := Lib.hid (HB_6.out.trans (hb.mono HB_6.out.size))
    have Sv_7 := Lib.hid (si_of_own ho OKO.out)
    clear hb ho ba_6 va_6 Sa_6 Ss_6 So_6 HB_6
    go_wp2_with fail
    refine (equalInts_any os _ _ _ _ _ _ _ So_7.out Sv_7.out).mono ?_
    rintro e w8 ⟨rfl, hb⟩
    have ba_8 := keep1 hb ba_7
    have va_8 := keep1 hb va_7
    have Sa_8 := Lib.hid ((Sa_7.out.below hb).call hb.size)
    have Ss_8 := Lib.hid ((Ss_7.out.below hb).call hb.size)
    have So_8 := Lib.hid ((So_7.out.below hb).call hb.size)
    have Sv_8 := Lib.hid ((Sv_7.out.below hb).call hb.size)
    have HB_8 : Hid (Below w.heap.size w w8) := Lib.hid (HB_7.out.trans (hb.mono HB_7.out.size))
    clear hb  ba_7 va_7 Sa_7 Ss_7 So_7 Sv_7 HB_7
    go_wp2
    go_ret
    exact ⟨by first | rfl | kernel_rfl | (go_simp; done), HB_8.out⟩
  have e0 : (r == -2) = false := by rw [beq_eq_false_iff_ne]; exact h2
  have hF := cov_law (by rw [HR.out]; exact h2)
  rw [HOS.out] at hF
  have HCOV := Lib.hid hF.cov
  have HFST := Lib.hid hF.first
  clear hF h2 HR HOS HIM HSP
  go_wp2_with fail
  go_loopw [6] (fun i wr => ∃ (k : Nat), k ≤ rs.length ∧ i = .int .i64 k ∧ Hid (Below w.heap.size w wr) ∧ Hid (wr.cell? ⟨w1.heap.size, 0, none⟩ = some (.slice Aa dsa.length ca)) ∧ Hid (wr.cell? ⟨w1.heap.size, 1, none⟩ = some (.int .i64 ba)) ∧ Hid (SD wr wr.heap.size Aa dsa.length ca dsa) ∧ Hid (SA wr wr.heap.size As rs.length cs rs) ∧ Hid (SI wr wr.heap.size Ao os.length co os)) (fun i _ => rs.length - (intOf i).toNat)
  case atStart => exact ⟨0, Nat.zero_le _, rfl, HB_6, Lib.hid ba_6, Lib.hid va_6, Sa_6, Ss_6, So_6⟩
  case round =>
    obtain ⟨k, hk, rfl, hbel, hca, hcv, hsa, hss, hso⟩ := hrel
    clear ba_6 va_6 HB_6 Sa_6 Ss_6 So_6
    have y1 := hca.out
    have y2 := hcv.out
    clear hca hcv
    by_cases hlt : k < rs.length
    · have hi1 : (k : Int) < (rs.length : Int) := by omega
      have hi0 : (0 : Int) ≤ (k : Int) := by omega
      obtain ⟨w40, hwn⟩ : ∃ W : World, W = wr := ⟨_, rfl⟩
      subst hwn
      have HB_40 := hbel
      have ba_40 := y1
      have va_40 := y2
      have Sa_40 := hsa
      have Ss_40 := hss
      have So_40 := hso
      clear hbel y1 y2 hsa hss hso
      go_wp2_with fail
      go_loopw [7] (fun i wq => ∃ (m : Nat), m ≤ k ∧ i = .int .i64 m ∧ Hid (Below w40.heap.size w40 wq)) (fun i _ => k - (intOf i).toNat)
      case atStart => exact ⟨0, Nat.zero_le _, rfl, Lib.hid (Below.refl _ _)⟩
      case round =>
        obtain ⟨m, hm2, rfl, hbq⟩ := hrel
        have q1 := Lib.hid ((Sa_40.out.below hbq.out).call hbq.out.size)
        have q2 := Lib.hid ((Ss_40.out.below hbq.out).call hbq.out.size)
        have q3 := Lib.hid ((So_40.out.below hbq.out).call hbq.out.size)
        have q4 := keep1 hbq.out ba_40
        have q5 := keep1 hbq.out va_40
        by_cases hlt2 : m < k
        · have hlm : m < rs.length := by omega
          obtain ⟨b, o, hA, hbb, x1, x2⟩ := q2.out.at_ hlm
          obtain ⟨b2, o2, hA2, hbb2, x3, x4⟩ := q2.out.at_ hlt
          rw [hA] at hA2
          injection hA2 with hA2
          injection hA2 with hb1 ho1
          subst hA hb1 ho1
          obtain ⟨v, hv⟩ : ∃ v, mCover dsa ba rs[m] rs[k] = v := ⟨_, rfl⟩
          have hin := HCOV.out m k hlm hlt hlt2
          rw [hv] at hin
          have hok1 := OKR.out _ (List.getElem_mem hlm)
          have hok2 := OKR.out _ (List.getElem_mem hlt)
          obtain ⟨hx8, hy8⟩ := hok1
          obtain ⟨hx9, hy9⟩ := hok2
          generalize rs[m] = a at *
          generalize rs[k] = a2 at *
          obtain ⟨x, y⟩ := a
          obtain ⟨x', y'⟩ := a2
          have HV := Lib.hid hv
          have HX8 : Hid (I64 x) := Lib.hid hx8
          have HY8 : Hid (I64 y) := Lib.hid hy8
          have HX9 : Hid (I64 x') := Lib.hid hx9
          have HY9 : Hid (I64 y') := Lib.hid hy9
          clear hv hx8 hy8 hx9 hy9
          have hj1 : (m : Int) < (k : Int) := by omega
          have hj2 : (m : Int) < (rs.length : Int) := by omega
          have hj0 : (0 : Int) ≤ (m : Int) := by omega
          obtain ⟨w60, hwn⟩ : ∃ W : World, W = wr := ⟨_, rfl⟩
          subst hwn
          have HB_60 : Hid (Below w.heap.size w w60) := Lib.hid (HB_40.out.trans (hbq.out.mono HB_40.out.size))
          have ba_60 := q4
          have va_60 := q5
          have x1_60 := x1
          have x2_60 := x2
          have x3_60 := x3
          have x4_60 := x4
          have Sa_60 := q1
          have So_60 := q3
          clear q1 q2 q3 q4 q5 x1 x2 x3 x4
          cases v
          · clear hin
            go_wp2_with fail
            refine wp_region_held_drew (S := (fun w' => w'.cell? ⟨w1.heap.size, 0, none⟩ = some (.slice Aa dsa.length ca) ∧ w'.cell? ⟨w1.heap.size, 1, none⟩ = some (.int .i64 ba) ∧ w'.cell? ⟨b, o + m * 2, none⟩ = some (.int .i64 x) ∧ w'.cell? ⟨b, o + m * 2 + 1, none⟩ = some (.int .i64 y) ∧ w'.cell? ⟨b, o + k * 2, none⟩ = some (.int .i64 x') ∧ w'.cell? ⟨b, o + k * 2 + 1, none⟩ = some (.int .i64 y'))) (by kernel_rfl) ⟨ba_60, va_60, x1_60, x2_60, x3_60, x4_60⟩ (fun hHeld => ?_)
            refine wpAnyH_take (i := 0) (v := ?_) rfl (by kernel_rfl) (by kernel_rfl) (by kernel_rfl) (fun _ _ _ h => h) (Or.inl ⟨by kernel_rfl, ?_⟩) hHeld ?_
            rotate_left
            · intro wz hSw
              try dsimp only at hSw
              first
              | (go_simp; done)
              | (go_simp; with_reducible rfl)
            try simp only [Act.put, List.setIfInBounds_toArray, List.set_cons_zero, List.set_cons_succ]
            refine wpAnyH_take (i := 1) (v := ?_) rfl (by kernel_rfl) (by kernel_rfl) (by kernel_rfl) (fun _ _ _ h => h) (Or.inl ⟨by kernel_rfl, ?_⟩) hHeld ?_
            rotate_left
            · intro wz hSw
              try dsimp only at hSw
              first
              | (go_simp; done)
              | (go_simp; with_reducible rfl)
            try simp only [Act.put, List.setIfInBounds_toArray, List.set_cons_zero, List.set_cons_succ]
            refine wpAnyH_take (i := 2) (v := ?_) rfl (by kernel_rfl) (by kernel_rfl) (by kernel_rfl) (fun _ _ _ h => h) (Or.inl ⟨by kernel_rfl, ?_⟩) hHeld ?_
            rotate_left
            · intro wz hSw
              try dsimp only at hSw
              first
              | (go_simp; done)
              | (go_simp; with_reducible rfl)
            try simp only [Act.put, List.setIfInBounds_toArray, List.set_cons_zero, List.set_cons_succ]
            refine wpAnyH_take (i := 3) (v := ?_) rfl (by kernel_rfl) (by kernel_rfl) (by kernel_rfl) (fun _ _ _ h => h) (Or.inl ⟨by kernel_rfl, ?_⟩) hHeld ?_
            rotate_left
            · intro wz hSw
              try dsimp only at hSw
              first
              | (go_simp; done)
              | (go_simp; with_reducible rfl)
            try simp only [Act.put, List.setIfInBounds_toArray, List.set_cons_zero, List.set_cons_succ]
            refine wpAnyH_take (i := 4) (v := ?_) rfl (by kernel_rfl) (by kernel_rfl) (by kernel_rfl) (fun _ _ _ h => h) (Or.inl ⟨by kernel_rfl, ?_⟩) hHeld ?_
            rotate_left
            · intro wz hSw
              try dsimp only at hSw
              first
              | (go_simp; done)
              | (go_simp; with_reducible rfl)
            try simp only [Act.put, List.setIfInBounds_toArray, List.set_cons_zero, List.set_cons_succ]
            refine wpAnyH_take (i := 5) (v := ?_) rfl (by kernel_rfl) (by kernel_rfl) (by kernel_rfl) (fun _ _ _ h => h) (Or.inl ⟨by kernel_rfl, ?_⟩) hHeld ?_
            rotate_left
            · intro wz hSw
              try dsimp only at hSw
              first
              | (go_simp; done)
              | (go_simp; with_reducible rfl)
            try simp only [Act.put, List.setIfInBounds_toArray, List.set_cons_zero, List.set_cons_succ]
            refine wpAnyH_take (i := 6) (v := ?_) rfl (by kernel_rfl) (by kernel_rfl) (by kernel_rfl) (fun _ _ _ h => h) (Or.inl ⟨by kernel_rfl, ?_⟩) hHeld ?_
            rotate_left
            · intro wz hSw
              try dsimp only at hSw
              first
              | (go_simp; done)
              | (go_simp; with_reducible rfl)
            try simp only [Act.put, List.setIfInBounds_toArray, List.set_cons_zero, List.set_cons_succ]
            refine wpAnyH_take (i := 7) (v := ?_) rfl (by kernel_rfl) (by kernel_rfl) (by kernel_rfl) (fun _ _ _ h => h) (Or.inl ⟨by kernel_rfl, ?_⟩) hHeld ?_
            rotate_left
            · intro wz hSw
              try dsimp only at hSw
              first
              | (go_simp; done)
              | (go_simp; with_reducible rfl)
            try simp only [Act.put, List.setIfInBounds_toArray, List.set_cons_zero, List.set_cons_succ]
            refine wpAnyH_take (i := 8) (v := ?_) rfl (by kernel_rfl) (by kernel_rfl) (by kernel_rfl) (fun _ _ _ h => h) (Or.inl ⟨by kernel_rfl, ?_⟩) hHeld ?_
            rotate_left
            · intro wz hSw
              try dsimp only at hSw
              first
              | (go_simp; done)
              | (go_simp; with_reducible rfl)
            try simp only [Act.put, List.setIfInBounds_toArray, List.set_cons_zero, List.set_cons_succ]
            refine wpAnyH_ready (rs := [9]) (by kernel_rfl) (by simp) ?_
            refine AllReadyH.cons rfl (fun K hK => ?_) AllReadyH.nil
            go_simp
            refine (implCover_v dsa ba x y x' y' _ _ _ _ (Sa_60.out.drewN 1) (by omega) HX8.out HY8.out HX9.out HY9.out HV.out).mono ?_
            rintro e w61 ⟨rfl, hb⟩
            replace hb : Below w60.heap.size w60 w61 := (by first | exact hb | exact undrew hb)
            have ba_61 := keep1 hb ba_60
            have va_61 := keep1 hb va_60
            have x1_61 := keep1 hb x1_60
            have x2_61 := keep1 hb x2_60
            have x3_61 := keep1 hb x3_60
            have x4_61 := keep1 hb x4_60
            have Sa_61 := Lib.hid ((Sa_60.out.below hb).call hb.size)
            have So_61 := Lib.hid ((So_60.out.below hb).call hb.size)
            have HB_61 : Hid (Below w.heap.size w w61) := Lib.hid (HB_60.out.trans (hb.mono HB_60.out.size))
            have HBQ := Lib.hid (hbq.out.trans (hb.mono hbq.out.size))
            go_simp
            refine hK.out _ _ ⟨ba_61, va_61, x1_61, x2_61, x3_61, x4_61⟩ (fun hHeld => ?_)
            clear hK K
            try simp only [Act.put, List.setIfInBounds_toArray, List.set_cons_zero, List.set_cons_succ]
            refine wpAnyH_take (i := 10) (v := ?_) rfl (by kernel_rfl) (by kernel_rfl) (by kernel_rfl) (fun _ _ _ h => h) (Or.inl ⟨by kernel_rfl, ?_⟩) hHeld ?_
            rotate_left
            · intro wz hSw
              try dsimp only at hSw
              first
              | (go_simp; done)
              | (go_simp; with_reducible rfl)
            try simp only [Act.put, List.setIfInBounds_toArray, List.set_cons_zero, List.set_cons_succ]
            refine wpAnyH_take (i := 11) (v := undef) rfl (by kernel_rfl) (by kernel_rfl) (by kernel_rfl) (fun _ _ _ h => h) (Or.inr ⟨by kernel_rfl, rfl⟩) hHeld ?_
            try simp only [Act.put, List.setIfInBounds_toArray, List.set_cons_zero, List.set_cons_succ]
            refine wpAnyH_take (i := 12) (v := undef) rfl (by kernel_rfl) (by kernel_rfl) (by kernel_rfl) (fun _ _ _ h => h) (Or.inr ⟨by kernel_rfl, rfl⟩) hHeld ?_
            try simp only [Act.put, List.setIfInBounds_toArray, List.set_cons_zero, List.set_cons_succ]
            refine wpAnyH_take (i := 13) (v := undef) rfl (by kernel_rfl) (by kernel_rfl) (by kernel_rfl) (fun _ _ _ h => h) (Or.inr ⟨by kernel_rfl, rfl⟩) hHeld ?_
            try simp only [Act.put, List.setIfInBounds_toArray, List.set_cons_zero, List.set_cons_succ]
            refine wpAnyH_take (i := 14) (v := undef) rfl (by kernel_rfl) (by kernel_rfl) (by kernel_rfl) (fun _ _ _ h => h) (Or.inr ⟨by kernel_rfl, rfl⟩) hHeld ?_
            try simp only [Act.put, List.setIfInBounds_toArray, List.set_cons_zero, List.set_cons_succ]
            refine wpAnyH_take (i := 15) (v := ?_) rfl (by kernel_rfl) (by kernel_rfl) (by kernel_rfl) (fun _ _ _ h => h) (Or.inl ⟨by kernel_rfl, ?_⟩) hHeld ?_
            rotate_left
            · intro wz hSw
              try dsimp only at hSw
              first
              | (go_simp; done)
              | (go_simp; with_reducible rfl)
            try simp only [Act.put, List.setIfInBounds_toArray, List.set_cons_zero, List.set_cons_succ]
            refine wpAnyH_done (by kernel_rfl) ?_ _
            try go_simp
            go_wp2
            go_roundw
            case rel => exact ⟨m + 1, by omega, by go_num, HBQ⟩
            case measure => simp [intOf]; omega
          · have HIN := Lib.hid (hin rfl)
            clear hin
            go_wp2_with fail
            go_region_held3 (fun w' => w'.cell? ⟨w1.heap.size, 0, none⟩ = some (.slice Aa dsa.length ca) ∧ w'.cell? ⟨w1.heap.size, 1, none⟩ = some (.int .i64 ba) ∧ w'.cell? ⟨b, o + m * 2, none⟩ = some (.int .i64 x) ∧ w'.cell? ⟨b, o + m * 2 + 1, none⟩ = some (.int .i64 y) ∧ w'.cell? ⟨b, o + k * 2, none⟩ = some (.int .i64 x') ∧ w'.cell? ⟨b, o + k * 2 + 1, none⟩ = some (.int .i64 y'))
              (first | go_keep | exact ⟨ba_60, va_60, x1_60, x2_60, x3_60, x4_60⟩ | exact ⟨ba_61, va_61, x1_61, x2_61, x3_61, x4_61⟩ | exact ⟨ba_62, va_62, x1_62, x2_62, x3_62, x4_62⟩)
              (first
                | (go_at_call 37; refine (implCover_v dsa ba x y x' y' _ _ _ _ (Sa_60.out.drewN 1) (by omega) HX8.out HY8.out HX9.out HY9.out HV.out).mono ?_; rintro e w61 ⟨rfl, hb⟩; replace hb : Below w60.heap.size w60 w61 := (by first | exact hb | exact undrew hb); have ba_61 := keep1 hb ba_60; have va_61 := keep1 hb va_60; have x1_61 := keep1 hb x1_60; have x2_61 := keep1 hb x2_60; have x3_61 := keep1 hb x3_60; have x4_61 := keep1 hb x4_60; have Sa_61 := Lib.hid ((Sa_60.out.below hb).call hb.size); have So_61 := Lib.hid ((So_60.out.below hb).call hb.size); have HB_61 : Hid (Below w.heap.size w w61) := Lib.hid (HB_60.out.trans (hb.mono HB_60.out.size)); have HBQ := Lib.hid (hbq.out.trans (hb.mono hbq.out.size)); clear hb)
                | (go_at_call 35; refine (isIn_any os k _ _ _ _ So_61.out HIN.out).mono ?_; rintro e w62 ⟨rfl, hb⟩; have ba_62 := keep1 hb ba_61; have va_62 := keep1 hb va_61; have x1_62 := keep1 hb x1_61; have x2_62 := keep1 hb x2_61; have x3_62 := keep1 hb x3_61; have x4_62 := keep1 hb x4_61; have Sa_62 := Lib.hid ((Sa_61.out.below hb).call hb.size); have So_62 := Lib.hid ((So_61.out.below hb).call hb.size); have HB_62 : Hid (Below w.heap.size w w62) := Lib.hid (HB_61.out.trans (hb.mono HB_61.out.size)); have HBR := Lib.hid (HBQ.out.trans (hb.mono HBQ.out.size)); clear hb))
            go_wp2
            go_roundw
            case rel => exact ⟨m + 1, by omega, by go_num, HBR⟩
            case measure => simp [intOf]; omega
        · obtain rfl : m = k := by omega
          have hj9 : ¬ (m : Int) < (m : Int) := by omega
          go_wp2
          go_roundw
          case rel => exact ⟨m + 1, by omega, by go_num, Lib.hid (HB_40.out.trans (hbq.out.mono HB_40.out.size)), Lib.hid q4, Lib.hid q5, q1, q2, q3⟩
          case measure => simp [intOf]; omega
    · obtain rfl : k = rs.length := by omega
      have hi9 : ¬ (rs.length : Int) < (rs.length : Int) := by omega
      obtain ⟨w40, hwn⟩ : ∃ W : World, W = wr := ⟨_, rfl⟩
      subst hwn
      have HB_40 := hbel
      have ba_40 := y1
      have va_40 := y2
      have Sa_40 := hsa
      have Ss_40 := hss
      have So_40 := hso
      clear hbel y1 y2 hsa hss hso
      go_wp2_with fail
      refine (isIn_any os 0 _ _ _ _ So_40.out HFST.out).mono ?_
      rintro e w41 ⟨rfl, hb⟩
      have ba_41 := keep1 hb ba_40
      have va_41 := keep1 hb va_40
      have Sa_41 := Lib.hid ((Sa_40.out.below hb).call hb.size)
      have Ss_41 := Lib.hid ((Ss_40.out.below hb).call hb.size)
      have So_41 := Lib.hid ((So_40.out.below hb).call hb.size)
      have HB_41 : Hid (Below w.heap.size w w41) := Lib.hid (HB_40.out.trans (hb.mono HB_40.out.size))
      clear hb  ba_40 va_40 Sa_40 Ss_40 So_40 HB_40
      go_wp2
      go_ret
      exact ⟨by first | rfl | kernel_rfl | (go_simp; done), HB_41.out⟩

theorem lifted (os : Os) (started : os.Started) (H : Type) (enc : TypeId × Value → H) :
    ReturnsInHanded {} Try.checked os 8 .any (Rows.fnDeadArmsCoverSpec.pre6 enc Try.prog Try.f8 Rows.fnDeadArmsCoverRow.domain false) (Rows.fnDeadArmsCoverSpec.post enc Try.prog Try.f8 false true false false) := by
  refine returnsInHanded_of_change (C := Try.checked) own started (by kernel_rfl) Try.func8
    (ChangeSpec.witness6 (enc := enc) (C := Try.checked) false ⟨#[], #[.slice none 0 0], []⟩ 8 (by kernel_rfl) (by kernel_rfl) (by kernel_rfl) (by kernel_rfl)) ?_
  intro W base args ds gs before hval0 hW hcnd _
  have hval : ∀ (j : Nat) t v, Try.f8.params[j]? = some t → args[j]? = some v → Value.okWide Try.prog W .any base t v := hval0
  have hW' := hW
  obtain ⟨p, q, hA0, hV, rfl, hfz, hnd⟩ := hW
  have hA : DataW.TrodAll enc Try.prog W 0 (fun _ => true) true Try.f8.params.toList args.toList ds p := hA0
  rw [Try.params8] at hA hval
  obtain ⟨v0, vs0, d0, ds0, p0, q0, hargs, rfl, rfl, h0, r0⟩ := trodAll_cons hA
  obtain ⟨rfl, rfl, rfl⟩ := trodAll_nil r0
  obtain rfl : args = #[v0] := by cases args; simp_all
  obtain ⟨rfl, rfl⟩ := trodVars_none hV
  have k0 := h0
  have lt0 : ∀ x ∈ p0, x.block < W.heap.size := by obtain ⟨m, hm⟩ := k0; exact DataW.trod_lt m _ _ _ hm
  obtain ⟨A0, n0, c0, l0, rfl, w0⟩ := open_code (hval 0 22 v0 rfl rfl) h0
  clear hA0 hval0
  refine (walk A0 n0 c0 l0 W w0).mono fun e W' ⟨he, bel⟩ => ?_
  subst he
  exact ⟨_, rfl, _, _, _, [], _, [], hW', trodAll_mk1 (shut_bool Try.underlying4 _), (trodAll_cons_mk (Below.trod laidOut (by kernel_rfl) (of_decide_eq_true (by kernel_rfl)) k0 bel lt0) trodAll_mk0), rfl, bel.frame _, fun h => by cases h⟩

theorem over : Rows.fnDeadArmsCoverRow.holds Try.pinned (OpenSpec.ofChange Rows.fnDeadArmsCoverSpec) :=
  OpenClaim.holds_of_wide 8 Try.f8 rfl rfl rfl rfl rfl rfl rfl ⟨rfl, rfl, rfl, rfl, rfl⟩ rfl rfl rfl rfl rfl (by kernel_rfl) Try.func8 (by kernel_rfl)
    (of_decide_eq_true (by kernel_rfl)) (by unfold Func.isWrapper; first | (rw [if_pos (by decide +kernel)]; kernel_rfl) | (rw [if_neg (by decide +kernel)]; exact ⟨rfl, rfl⟩))
    (fun os started H enc _ => lifted os started H enc)

theorem proved : Rows.FnDeadArmsCoverSaid := over
end Go.Proofs.Ytkholjcmaebaaaa.fnDeadArmsCover
