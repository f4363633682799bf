/-
For every code the law of short names returns true: the program's ShortNames answers as its model, they tell as much as FittingNames, are no more than the bits, and without any one they tell less.
Conditions: none.
-/
import Derived.Test.YteaiaglangmhbaaGenW
import Derived.Test.YteaiaglangmhbaaOpenC
import Derived.Test.YteaiaglangmhbaaLSh
import Derived.Test.YteaiaglangmhbaaLFit
import Derived.Test.YteaiaglangmhbaaLHelp
import Derived.Test.YteaiaglangmhbaaFewC
import Derived.Test.YteaiaglangmhbaaFewT
import Derived.Test.YteaiaglangmhbaaFitS
import Derived.Test.YteaiaglangmhbaaFitJ
import Derived.Test.YteaiaglangmhbaaAlgJ
import Derived.Test.YteaiaglangmhbaaAlgI
namespace Go.Proofs.Yteaiaglangmhbaa.fnShortNames
open Go.ChangeShapes Go.WideShapes Go.ChangeAt Go.RowKit
open Go.ChangeMaps (open_string shut_string)
set_option linter.unusedVariables false
set_option linter.unusedSimpArgs false
set_option maxRecDepth 100000

set_option maxHeartbeats 16000000 in
theorem walk (A : Option Addr) (n c : Nat) (zs : List Int) (w : World) (h : SB w w.heap.size A n c zs) :
    Calls Try.prog 7 #[.slice A n c] w fun e w' => e = .returned (.bool true) ∧ Below w.heap.size w w' := by
  have hm := h.max
  have hcap := h.cap
  unfold maxLen at hm
  have HS0 := Lib.hid h
  clear h
  by_cases hbig : 1048576 < (n : Int)
  · go_enter Try.func7, Try.ntmps7
    go_wp2
    go_ret
    exact ⟨rfl, Below.refl _ _⟩
  go_enter Try.func7, Try.ntmps7
  go_wp2_with fail
  refine (drawShortNames_any A n c zs _ HS0.out).mono ?_
  rintro e w1 ⟨Aa, ca, dsa, ba, x, rfl, hna, hsma, hbda, hx, hsa, hb⟩
  have HB_1 := Lib.hid hb
  have Sa_1 := Lib.hid hsa
  have HSMa := Lib.hid hsma
  have HOKa : Hid (∀ d ∈ dsa, d.ok) := Lib.hid (fun d hd => small_ok (hsma d hd))
  have HBDa := Lib.hid hbda
  clear hb hsa hsma hbda
  obtain ⟨w2, hw⟩ : ∃ W : World, W = (w1.alloc (.cells #[.slice Aa dsa.length ca, .int .i64 ba] 30)) := ⟨_, rfl⟩
  have hb : Below w1.heap.size w1 w2 := by rw [hw]; exact ((Below.refl _ _).alloc (by first | exact Nat.le_refl _ | (simp; done) | (simp; omega)) _)
  have Sa_2 := Lib.hid ((Sa_1.out.below hb).call hb.size)
  have HB_2 : Hid (Below w.heap.size w w2) := Lib.hid (HB_1.out.trans (hb.mono HB_1.out.size))
  have ba_2 : w2.cell? ⟨w1.heap.size, 0, none⟩ = some (.slice Aa dsa.length ca) := by rw [hw]; simp [go_sem]
  have va_2 : w2.cell? ⟨w1.heap.size, 1, none⟩ = some (.int .i64 ba) := by rw [hw]; simp [go_sem]
  have lf_ba : (w1.alloc (.cells #[.slice Aa dsa.length ca, .int .i64 ba] 30)).cell? ⟨w1.heap.size, 0, none⟩ = some (.slice Aa dsa.length ca) := by rw [← hw]; exact ba_2
  have lf_va : (w1.alloc (.cells #[.slice Aa dsa.length ca, .int .i64 ba] 30)).cell? ⟨w1.heap.size, 1, none⟩ = some (.int .i64 ba) := by rw [← hw]; exact va_2
  have HW2 : Hid ((w1.alloc (.cells #[.slice Aa dsa.length ca, .int .i64 ba] 30)) = w2) := Lib.hid hw.symm
  clear hb hw Sa_1 HB_1
  obtain ⟨ss, hss⟩ : ∃ ss, mShortN dsa ba x = ss := ⟨_, rfl⟩
  have hsl : ss.length ≤ 12 := by rw [← hss]; exact mShortN_len _ _ _
  have OKS : Hid (∀ s ∈ ss, s.size ≤ maxLen) := Lib.hid (by rw [← hss]; exact mShortN_ok HOKa.out)
  have HIM : Hid (∀ (A : Option Addr) (n c : Nat) (w : World), SD w w.heap.size A n c dsa → n ≤ 1048576 → Calls Try.prog 20 #[.agg #[.slice A n c, .int .i64 ba], .int .i64 x] w (StrsP ss w)) := Lib.hid (by rw [← hss]; exact fun A n c w h hn => implShortN_any dsa ba x A n c w h hn)
  have HSP : Hid (∀ (A : Option Addr) (n c : Nat) (w : World), SD w w.heap.size A n c dsa → n ≤ 1048576 → Calls Try.prog 19 #[.agg #[.slice A n c, .int .i64 ba], .int .i64 x] w (StrsP ss w)) := Lib.hid (by rw [← hss]; exact fun A n c w h hn => specShortN_any dsa ba x A n c w h hn)
  unfold StrsP at HIM HSP
  obtain ⟨v, hv⟩ : ∃ v, mIsV dsa ba x = v := ⟨_, rfl⟩
  have HV := Lib.hid hv
  have HSS := Lib.hid hss
  clear hss hv
  go_wp2_with fail
  rw [HW2.out]
  clear lf_ba lf_va
  refine (HIM.out _ _ _ _ Sa_2.out (by omega)).mono ?_
  rintro e w3 ⟨Ag, cg, rfl, ho, hb⟩
  have ba_3 := keep1 hb ba_2
  have va_3 := keep1 hb va_2
  have Sa_3 := Lib.hid ((Sa_2.out.below hb).call hb.size)
  have HB_3 : Hid (Below w.heap.size w w3) := Lib.hid (HB_2.out.trans (hb.mono HB_2.out.size))
  have Sg_3 := Lib.hid (ss_of_own ho OKS.out)
  clear hb ho ba_2 va_2 Sa_2 HB_2
  go_wp2_with fail
  refine (HSP.out _ _ _ _ Sa_3.out (by omega)).mono ?_
  rintro e w4 ⟨Aw, cw, rfl, ho, hb⟩
  have ba_4 := keep1 hb ba_3
  have va_4 := keep1 hb va_3
  have Sa_4 := Lib.hid ((Sa_3.out.below hb).call hb.size)
  have Sg_4 := Lib.hid ((Sg_3.out.below hb).call hb.size)
  have HB_4 : Hid (Below w.heap.size w w4) := Lib.hid (HB_3.out.trans (hb.mono HB_3.out.size))
  have Sw_4 := Lib.hid (ss_of_own ho OKS.out)
  clear hb ho ba_3 va_3 Sa_3 Sg_3 HB_3
  go_wp2_with fail
  refine (equalTexts_any ss _ _ _ _ _ _ _ Sg_4.out Sw_4.out).mono ?_
  rintro e w5 ⟨rfl, hb⟩
  have ba_5 := keep1 hb ba_4
  have va_5 := keep1 hb va_4
  have Sa_5 := Lib.hid ((Sa_4.out.below hb).call hb.size)
  have Sg_5 := Lib.hid ((Sg_4.out.below hb).call hb.size)
  have Sw_5 := Lib.hid ((Sw_4.out.below hb).call hb.size)
  have HB_5 : Hid (Below w.heap.size w w5) := Lib.hid (HB_4.out.trans (hb.mono HB_4.out.size))
  clear hb  ba_4 va_4 Sa_4 Sg_4 Sw_4 HB_4
  clear Sw_5
  go_wp2_with fail
  refine (implIsV_v dsa ba x _ _ _ _ Sa_5.out (by omega) HV.out).mono ?_
  rintro e w6 ⟨rfl, hb⟩
  have ba_6 := keep1 hb ba_5
  have va_6 := keep1 hb va_5
  have Sa_6 := Lib.hid ((Sa_5.out.below hb).call hb.size)
  have Sg_6 := Lib.hid ((Sg_5.out.below hb).call hb.size)
  have HB_6 : Hid (Below w.heap.size w w6) := Lib.hid (HB_5.out.trans (hb.mono HB_5.out.size))
  clear hb  ba_5 va_5 Sa_5 Sg_5 HB_5
  cases v
  · skip
    go_wp2_with fail
    refine (HSP.out _ _ _ _ Sa_6.out (by omega)).mono ?_
    rintro e w7 ⟨Av, cv, rfl, ho, hb⟩
    have ba_7 := keep1 hb ba_6
    have va_7 := keep1 hb va_6
    have Sa_7 := Lib.hid ((Sa_6.out.below hb).call hb.size)
    have Sg_7 := Lib.hid ((Sg_6.out.below hb).call hb.size)
    have HB_7 : Hid (Below w.heap.size w w7) := Lib.hid (HB_6.out.trans (hb.mono HB_6.out.size))
    have Sv_7 := Lib.hid (ss_of_own ho OKS.out)
    clear hb ho ba_6 va_6 Sa_6 Sg_6 HB_6
    go_wp2_with fail
    refine (equalTexts_any ss _ _ _ _ _ _ _ Sg_7.out Sv_7.out).mono ?_
    rintro e w8 ⟨rfl, hb⟩
    have ba_8 := keep1 hb ba_7
    have va_8 := keep1 hb va_7
    have Sa_8 := Lib.hid ((Sa_7.out.below hb).call hb.size)
    have Sg_8 := Lib.hid ((Sg_7.out.below hb).call hb.size)
    have Sv_8 := Lib.hid ((Sv_7.out.below hb).call hb.size)
    have HB_8 : Hid (Below w.heap.size w w8) := Lib.hid (HB_7.out.trans (hb.mono HB_7.out.size))
    clear hb  ba_7 va_7 Sa_7 Sg_7 Sv_7 HB_7
    go_wp2
    go_ret
    exact ⟨by first | rfl | kernel_rfl | (go_simp; done), HB_8.out⟩
  obtain ⟨p, rfl, hp⟩ := mIsV_nat HV.out
  obtain ⟨wm, hsh⟩ := sh_law HV.out
  rw [HSS.out] at hsh
  have HFEW := Lib.hid hsh.few
  have HO1 := Lib.hid hsh.one
  have HO2 := Lib.hid hsh.two
  have hcnt := hsh.cnt
  have HCB : Hid (mCount dsa ba (p : Int) = ((popc p : Nat) : Int)) := Lib.hid (by unfold mCount; rw [HV.out, if_pos rfl, Int.toNat_natCast])
  obtain ⟨fs, hfs⟩ : ∃ fs, mFitN dsa ba p = fs := ⟨_, rfl⟩
  rw [hfs] at HO2
  have OKF : Hid (∀ s ∈ fs, s.size ≤ maxLen) := Lib.hid (by rw [← hfs]; exact mFitN_ok HOKa.out)
  have hfl : fs.length ≤ 12 := by rw [← hfs]; exact mFitN_len _ _ _
  have HFI : Hid (∀ (A : Option Addr) (n c : Nat) (w : World), SD w w.heap.size A n c dsa → n ≤ 1048576 → Calls Try.prog 13 #[.agg #[.slice A n c, .int .i64 ba], .int .i64 p] w (StrsP fs w)) := Lib.hid (by rw [← hfs]; exact fun A n c w h hn => implFitN_any dsa ba p A n c w h hn)
  unfold StrsP at HFI
  generalize popc p = pc at *
  clear hsh hfs HSS HIM HSP
  go_wp2_with fail
  refine (implFrom_v dsa ba ss _ _ _ _ Sa_6.out _ _ _ Sg_6.out (by omega) HO1.out.1 HO1.out.2).mono ?_
  rintro e w7 ⟨rfl, hb⟩
  have ba_7 := keep1 hb ba_6
  have va_7 := keep1 hb va_6
  have Sa_7 := Lib.hid ((Sa_6.out.below hb).call hb.size)
  have Sg_7 := Lib.hid ((Sg_6.out.below hb).call hb.size)
  have HB_7 : Hid (Below w.heap.size w w7) := Lib.hid (HB_6.out.trans (hb.mono HB_6.out.size))
  clear hb  ba_6 va_6 Sa_6 Sg_6 HB_6
  go_wp2_with fail
  go_region_held3 (fun w' => w'.cell? ⟨w1.heap.size, 0, none⟩ = some (.slice Aa dsa.length ca) ∧ w'.cell? ⟨w1.heap.size, 1, none⟩ = some (.int .i64 ba))
    (first | go_keep | exact ⟨ba_7, va_7⟩ | exact ⟨ba_8, va_8⟩ | exact ⟨ba_9, va_9⟩)
    (first
      | (go_at_call 13; refine (HFI.out _ _ _ _ (Sa_7.out.drewN 1) (by omega)).mono ?_; rintro e w8 ⟨Af, cf, rfl, ho, hb⟩; replace hb : Below w7.heap.size w7 w8 := (by first | exact hb | exact undrew hb); have ba_8 := keep1 hb ba_7; have va_8 := keep1 hb va_7; have Sa_8 := Lib.hid ((Sa_7.out.below hb).call hb.size); have Sg_8 := Lib.hid ((Sg_7.out.below hb).call hb.size); have HB_8 : Hid (Below w.heap.size w w8) := Lib.hid (HB_7.out.trans (hb.mono HB_7.out.size)); have Sf_8 := Lib.hid (ss_of_own ho OKF.out); clear ho; clear hb)
      | (go_at_call 37; refine (implFrom_v dsa ba fs _ _ _ _ Sa_8.out _ _ _ Sf_8.out (by omega) HO2.out.1 HO2.out.2).mono ?_; rintro e w9 ⟨rfl, hb⟩; have ba_9 := keep1 hb ba_8; have va_9 := keep1 hb va_8; have Sa_9 := Lib.hid ((Sa_8.out.below hb).call hb.size); have Sg_9 := Lib.hid ((Sg_8.out.below hb).call hb.size); have Sf_9 := Lib.hid ((Sf_8.out.below hb).call hb.size); have HB_9 : Hid (Below w.heap.size w w9) := Lib.hid (HB_8.out.trans (hb.mono HB_8.out.size)); clear hb))
  clear Sf_9
  go_wp2_with fail
  go_loopw [10] (fun i wr => ∃ (k : Nat), k ≤ ss.length ∧ i = .int .i64 k ∧ Hid (Below w.heap.size w wr) ∧ Hid (wr.cell? ⟨w1.heap.size, 0, none⟩ = some (.slice Aa dsa.length ca)) ∧ Hid (wr.cell? ⟨w1.heap.size, 1, none⟩ = some (.int .i64 ba)) ∧ Hid (SD wr wr.heap.size Aa dsa.length ca dsa) ∧ Hid (SS wr wr.heap.size Ag ss.length cg ss)) (fun i _ => ss.length - (intOf i).toNat)
  case atStart => exact ⟨0, Nat.zero_le _, rfl, HB_9, Lib.hid ba_9, Lib.hid va_9, Sa_9, Sg_9⟩
  case round =>
    obtain ⟨k, hk, rfl, hbel, hca, hcv, hsa, hsg⟩ := hrel
    clear ba_9 va_9 HB_9 Sa_9 Sg_9
    have y1 := hca.out
    have y2 := hcv.out
    clear hca hcv
    by_cases hlt : k < ss.length
    · obtain ⟨x9, ht1, ht2, ht3⟩ := HFEW.out k hlt
      have HT1 := Lib.hid ht1
      have HT2 := Lib.hid ht2
      clear ht1 ht2
      have hcap := hsg.out.cap
      have hi1 : (k : Int) < (ss.length : Int) := by omega
      have hi0 : (0 : Int) ≤ (k : Int) := by omega
      have hw1 : IntKind.i64.wrap ((k : Int) + 1) = (k : Int) + 1 := by rw [IntKind.wrap_i64]; omega
      have hsl1 := runS_to Ag ss.length cg k (by omega)
      obtain ⟨A2, hsl2, hs2⟩ := runS_from hsg.out (k + 1) (by omega)
      rw [Int.natCast_succ] at hsl2
      have S1 := Lib.hid (hsg.out.takeK (show k ≤ ss.length by omega))
      have S2 := Lib.hid hs2
      have HL12 : Hid (k + (ss.length - (k + 1)) = (ss.take k ++ ss.drop (k + 1)).length) := Lib.hid (by rw [List.length_append, List.length_take, List.length_drop]; omega)
      clear hs2 hcap
      generalize hm2 : ss.length - (k + 1) = m2 at S2 hsl2 HL12
      have hm3 : k + m2 ≤ 12 := by omega
      generalize hc2 : cg - (k + 1) = c2 at S2 hsl2
      clear hm2 hc2
      have T1 := S1
      have T2 := S2
      clear S1 S2
      obtain ⟨w40, hwn⟩ : ∃ W : World, W = wr := ⟨_, rfl⟩
      subst hwn
      have HB_40 := hbel
      have ba_40 := y1
      have va_40 := y2
      have Sa_40 := hsa
      have Sg_40 := hsg
      have S1_40 := T1
      have S2_40 := T2
      clear hbel y1 y2 hsa hsg T1 T2
      go_wp2_with fail
      obtain ⟨i0, hi, hz0, hz1, hz2⟩ := info_parts info_S
      have HI := Lib.hid (And.intro hi (And.intro hz0 (And.intro hz1 hz2)))
      clear hi hz0 hz1 hz2
      refine wp_region_held_drew (S := fun w' => w'.cell? ⟨w1.heap.size, 0, none⟩ = some (.slice Aa dsa.length ca)) (by kernel_rfl) ba_40 (fun hHeld => ?_)
      generalize hwd : w40.drew = w41 at hHeld ⊢
      have hb : Below w40.heap.size w40 w41 := by rw [← hwd]; exact (Below.refl _ _).drew
      have ba_41 := keep1 hb ba_40
      have va_41 := keep1 hb va_40
      have Sa_41 := Lib.hid ((Sa_40.out.below hb).call hb.size)
      have Sg_41 := Lib.hid ((Sg_40.out.below hb).call hb.size)
      have S1_41 := Lib.hid ((S1_40.out.below hb).call hb.size)
      have S2_41 := Lib.hid ((S2_40.out.below hb).call hb.size)
      have HB_41 : Hid (Below w.heap.size w w41) := Lib.hid (HB_40.out.trans (hb.mono HB_40.out.size))
      clear hb hwd ba_40 va_40 Sa_40 Sg_40 S1_40 S2_40 HB_40
      refine wpAnyH_take (i := 1) (v := ?_) rfl (by kernel_rfl) (by kernel_rfl) (by kernel_rfl) (fun _ _ _ h => h) (Or.inl ⟨by kernel_rfl, ?_⟩) hHeld ?_
      rotate_left
      · intro wz hSw
        try dsimp only at hSw
        first
        | (go_simp; done)
        | (go_simp; with_reducible rfl)
      try simp only [Act.put, List.setIfInBounds_toArray, List.set_cons_zero, List.set_cons_succ]
      refine wpAnyH_take (i := 2) (v := ?_) rfl (by kernel_rfl) (by kernel_rfl) (by kernel_rfl) (fun _ _ _ h => h) (Or.inl ⟨by kernel_rfl, ?_⟩) hHeld ?_
      rotate_left
      · intro wz hSw
        try dsimp only at hSw
        first
        | (go_simp; done)
        | (go_simp; with_reducible rfl)
      try simp only [Act.put, List.setIfInBounds_toArray, List.set_cons_zero, List.set_cons_succ]
      refine wpAnyH_take (i := 3) (v := ?_) rfl (by kernel_rfl) (by kernel_rfl) (by kernel_rfl) (fun _ _ _ h => h) (Or.inl ⟨by kernel_rfl, ?_⟩) hHeld ?_
      rotate_left
      · intro wz hSw
        try dsimp only at hSw
        first
        | (go_simp; done)
        | (go_simp; with_reducible rfl)
      try simp only [Act.put, List.setIfInBounds_toArray, List.set_cons_zero, List.set_cons_succ]
      refine wpAnyH_take (i := 5) (v := ?_) rfl (by kernel_rfl) (by kernel_rfl) (by kernel_rfl) (fun _ _ _ h => h) (Or.inl ⟨by kernel_rfl, ?_⟩) hHeld ?_
      rotate_left
      · intro wz hSw
        try dsimp only at hSw
        first
        | (go_simp; done)
        | (go_simp; with_reducible rfl)
      try simp only [Act.put, List.setIfInBounds_toArray, List.set_cons_zero, List.set_cons_succ]
      refine wpAnyH_take (i := 6) (v := ?_) rfl (by kernel_rfl) (by kernel_rfl) (by kernel_rfl) (fun _ _ _ h => h) (Or.inl ⟨by kernel_rfl, ?_⟩) hHeld ?_
      rotate_left
      · intro wz hSw
        try dsimp only at hSw
        first
        | (go_simp; done)
        | (go_simp; with_reducible rfl)
      try simp only [Act.put, List.setIfInBounds_toArray, List.set_cons_zero, List.set_cons_succ]
      refine wpAnyH_take (i := 7) (v := ?_) rfl (by kernel_rfl) (by kernel_rfl) (by kernel_rfl) (fun _ _ _ h => h) (Or.inl ⟨by kernel_rfl, ?_⟩) hHeld ?_
      rotate_left
      · intro wz hSw
        try dsimp only at hSw
        first
        | (go_simp; done)
        | (go_simp; with_reducible rfl)
      try simp only [Act.put, List.setIfInBounds_toArray, List.set_cons_zero, List.set_cons_succ]
      refine wpAnyH_take (i := 8) (v := ?_) rfl (by kernel_rfl) (by kernel_rfl) (by kernel_rfl) (fun _ _ _ h => h) (Or.inl ⟨by kernel_rfl, ?_⟩) hHeld ?_
      rotate_left
      · intro wz hSw
        try dsimp only at hSw
        first
        | (go_simp; done)
        | (go_simp; with_reducible rfl)
      try simp only [Act.put, List.setIfInBounds_toArray, List.set_cons_zero, List.set_cons_succ]
      refine wpAnyH_ready (rs := [0]) (by kernel_rfl) (by simp) ?_
      refine AllReadyH.cons rfl (fun K hK => ?_) AllReadyH.nil
      go_simp
      have hbA : Below w41.heap.size w41 (w41.alloc (.cells #[] 9)) := (Below.refl _ _).alloc (Nat.le_refl _) _
      have HOA : Hid ((w41.alloc (.cells #[] 9)).ownsRow w41.heap.size 9 1 (.slice (some ⟨w41.heap.size, 0, none⟩) 0 0) 0 []) := Lib.hid (World.ownsRow_made w41 #[] 0 (Nat.le_refl _) (by unfold maxLen; omega) rfl)
      refine hK.out _ _ (keep1 hbA ba_41) (fun hHeld => ?_)
      clear hK K
      try simp only [Act.put, List.setIfInBounds_toArray, List.set_cons_zero, List.set_cons_succ]
      refine wpAnyH_ready (rs := [4]) (by kernel_rfl) (by simp) ?_
      refine AllReadyH.cons rfl (fun K hK => ?_) AllReadyH.nil
      refine step_app_src rfl _ _ _ rfl w41.heap.size _ i0 _ 1 16 Try.underlying26 HI.out rfl (by omega) (by omega) _ 0 _ rfl HOA.out _ _ _ _ rfl ((S1_41.out.below hbA).srcS) (one_S _) (by omega) (by first | exact hbA.size | (simp; done)) ?_
      intro v9 w42 ho9 hg9
      rw [Nat.zero_add, List.nil_append] at ho9
      obtain ⟨A9, c9, rfl⟩ := own_form ho9
      have hb42 : Below w41.heap.size w41 w42 := hbA.grown hg9 hbA.size (fun q hq => (HOA.out.lt q hq).1)
      have HO9 := Lib.hid ho9
      clear ho9 hg9
      refine hK.out _ _ (keep1 hb42 ba_41) (fun hHeld => ?_)
      clear hK K
      try simp only [Act.put, List.setIfInBounds_toArray, List.set_cons_zero, List.set_cons_succ]
      refine wpAnyH_ready (rs := [9]) (by kernel_rfl) (by simp) ?_
      refine AllReadyH.cons rfl (fun K hK => ?_) AllReadyH.nil
      refine step_app_src rfl _ _ _ rfl w41.heap.size _ i0 _ 1 16 Try.underlying26 HI.out rfl (by omega) (by omega) _ k _ rfl HO9.out _ _ _ _ rfl ((S2_41.out.below hb42).srcS) (one_S _) (by omega) (by first | exact hb42.size | (simp; done)) ?_
      intro v9 w43 ho9 hg9
      obtain ⟨A8, c8, rfl⟩ := own_form ho9
      have hb : Below w41.heap.size w41 w43 := hb42.grown hg9 hb42.size (fun q hq => (HO9.out.lt q hq).1)
      have ba_43 := keep1 hb ba_41
      have va_43 := keep1 hb va_41
      have Sa_43 := Lib.hid ((Sa_41.out.below hb).call hb.size)
      have Sg_43 := Lib.hid ((Sg_41.out.below hb).call hb.size)
      have S1_43 := Lib.hid ((S1_41.out.below hb).call hb.size)
      have S2_43 := Lib.hid ((S2_41.out.below hb).call hb.size)
      have HB_43 : Hid (Below w.heap.size w w43) := Lib.hid (HB_41.out.trans (hb.mono HB_41.out.size))
      have Sx_43 : Hid (SS w43 w43.heap.size A8 (k + m2) c8 (ss.take k ++ ss.drop (k + 1))) := Lib.hid (by have h := ho9; rw [show flatS (ss.take k) ++ flatS (ss.drop (k + 1)) = flatS (ss.take k ++ ss.drop (k + 1)) by unfold flatS; rw [List.map_append]] at h; exact ss_of_own h (fun s hs => OKS.out s (by rcases List.mem_append.1 hs with h | h; exact List.mem_of_mem_take h; exact List.mem_of_mem_drop h)))
      refine hK.out _ _ ba_43 (fun hHeld => ?_)
      clear hK K ho9 hg9 hb hb42 hbA HO9 HOA ba_41 va_41 Sa_41 Sg_41 S1_41 S2_41 HB_41
      try simp only [Act.put, List.setIfInBounds_toArray, List.set_cons_zero, List.set_cons_succ]
      refine wpAnyH_take (i := 10) (v := ?_) rfl (by kernel_rfl) (by kernel_rfl) (by kernel_rfl) (fun _ _ _ h => h) (Or.inl ⟨by kernel_rfl, ?_⟩) hHeld ?_
      rotate_left
      · intro wz hSw
        try dsimp only at hSw
        first
        | (go_simp; done)
        | (go_simp; with_reducible rfl)
      try simp only [Act.put, List.setIfInBounds_toArray, List.set_cons_zero, List.set_cons_succ]
      refine wpAnyH_done (by kernel_rfl) ?_ _
      try go_simp
      go_wp2_with fail
      refine (implFrom_v dsa ba (ss.take k ++ ss.drop (k + 1)) _ _ _ _ Sa_43.out _ _ _ Sx_43.out (by omega) HT1.out HT2.out).mono ?_
      rintro e w44 ⟨rfl, hb⟩
      have ba_44 := keep1 hb ba_43
      have va_44 := keep1 hb va_43
      have Sa_44 := Lib.hid ((Sa_43.out.below hb).call hb.size)
      have Sg_44 := Lib.hid ((Sg_43.out.below hb).call hb.size)
      have S1_44 := Lib.hid ((S1_43.out.below hb).call hb.size)
      have S2_44 := Lib.hid ((S2_43.out.below hb).call hb.size)
      have Sx_44 := Lib.hid ((Sx_43.out.below hb).call hb.size)
      have HB_44 : Hid (Below w.heap.size w w44) := Lib.hid (HB_43.out.trans (hb.mono HB_43.out.size))
      clear hb  ba_43 va_43 Sa_43 Sg_43 S1_43 S2_43 Sx_43 HB_43
      go_wp2
      go_roundw
      case rel => exact ⟨k + 1, by omega, by go_num, HB_44, Lib.hid ba_44, Lib.hid va_44, Sa_44, Sg_44⟩
      case measure => simp [intOf]; omega
    · obtain rfl : k = ss.length := by omega
      have hi9 : ¬ (ss.length : Int) < (ss.length : Int) := by omega
      obtain ⟨w40, hwn⟩ : ∃ W : World, W = wr := ⟨_, rfl⟩
      subst hwn
      have HB_40 := hbel
      have ba_40 := y1
      have va_40 := y2
      have Sa_40 := hsa
      have Sg_40 := hsg
      clear hbel y1 y2 hsa hsg
      go_wp2_with fail
      refine (implCount_v dsa ba (p : Int) _ _ _ _ Sa_40.out (by omega) HCB.out).mono ?_
      rintro e w41 ⟨rfl, hb⟩
      have ba_41 := keep1 hb ba_40
      have va_41 := keep1 hb va_40
      have Sa_41 := Lib.hid ((Sa_40.out.below hb).call hb.size)
      have Sg_41 := Lib.hid ((Sg_40.out.below hb).call hb.size)
      have HB_41 : Hid (Below w.heap.size w w41) := Lib.hid (HB_40.out.trans (hb.mono HB_40.out.size))
      clear hb  ba_40 va_40 Sa_40 Sg_40 HB_40
      go_wp2
      go_ret
      exact ⟨by first | rfl | kernel_rfl | (go_simp; done), HB_41.out⟩

theorem lifted (os : Os) (started : os.Started) (H : Type) (enc : TypeId × Value → H) :
    ReturnsInHanded {} Try.checked os 7 .any (Rows.fnShortNamesSpec.pre6 enc Try.prog Try.f7 Rows.fnShortNamesRow.domain false) (Rows.fnShortNamesSpec.post enc Try.prog Try.f7 false true false false) := by
  refine returnsInHanded_of_change (C := Try.checked) own started (by kernel_rfl) Try.func7
    (ChangeSpec.witness6 (enc := enc) (C := Try.checked) false ⟨#[], #[.slice none 0 0], []⟩ 8 (by kernel_rfl) (by kernel_rfl) (by kernel_rfl) (by kernel_rfl)) ?_
  intro W base args ds gs before hval0 hW hcnd _
  have hval : ∀ (j : Nat) t v, Try.f7.params[j]? = some t → args[j]? = some v → Value.okWide Try.prog W .any base t v := hval0
  have hW' := hW
  obtain ⟨p, q, hA0, hV, rfl, hfz, hnd⟩ := hW
  have hA : DataW.TrodAll enc Try.prog W 0 (fun _ => true) true Try.f7.params.toList args.toList ds p := hA0
  rw [Try.params7] at hA hval
  obtain ⟨v0, vs0, d0, ds0, p0, q0, hargs, rfl, rfl, h0, r0⟩ := trodAll_cons hA
  obtain ⟨rfl, rfl, rfl⟩ := trodAll_nil r0
  obtain rfl : args = #[v0] := by cases args; simp_all
  obtain ⟨rfl, rfl⟩ := trodVars_none hV
  have k0 := h0
  have lt0 : ∀ x ∈ p0, x.block < W.heap.size := by obtain ⟨m, hm⟩ := k0; exact DataW.trod_lt m _ _ _ hm
  obtain ⟨A0, n0, c0, l0, rfl, w0⟩ := open_code (hval 0 55 v0 rfl rfl) h0
  clear hA0 hval0
  refine (walk A0 n0 c0 l0 W w0).mono fun e W' ⟨he, bel⟩ => ?_
  subst he
  exact ⟨_, rfl, _, _, _, [], _, [], hW', trodAll_mk1 (shut_bool Try.underlying4 _), (trodAll_cons_mk (Below.trod laidOut (by kernel_rfl) (of_decide_eq_true (by kernel_rfl)) k0 bel lt0) trodAll_mk0), rfl, bel.frame _, fun h => by cases h⟩

theorem over : Rows.fnShortNamesRow.holds Try.pinned (OpenSpec.ofChange Rows.fnShortNamesSpec) :=
  OpenClaim.holds_of_wide 7 Try.f7 rfl rfl rfl rfl rfl rfl rfl ⟨rfl, rfl, rfl, rfl, rfl⟩ rfl rfl rfl rfl rfl (by kernel_rfl) Try.func7 (by kernel_rfl)
    (of_decide_eq_true (by kernel_rfl)) (by unfold Func.isWrapper; first | (rw [if_pos (by decide +kernel)]; kernel_rfl) | (rw [if_neg (by decide +kernel)]; exact ⟨rfl, rfl⟩))
    (fun os started H enc _ => lifted os started H enc)

theorem proved : Rows.FnShortNamesSaid := over
end Go.Proofs.Yteaiaglangmhbaa.fnShortNames
