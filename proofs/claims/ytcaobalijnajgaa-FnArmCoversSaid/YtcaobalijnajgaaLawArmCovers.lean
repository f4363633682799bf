/-
For every code the law of arms that cover where they take both ends returns true.
Conditions: none.
-/
import Derived.Test.YtcaobalijnajgaaGenQ
import Derived.Test.YtcaobalijnajgaaOpenC
import Derived.Test.YtcaobalijnajgaaLFlag
import Derived.Test.YtcaobalijnajgaaLArm
import Derived.Test.YtcaobalijnajgaaAlgS
import Derived.Test.YtcaobalijnajgaaAlgI
import Derived.Test.YtcaobalijnajgaaArmS
import Derived.Test.YtcaobalijnajgaaArmJ
import Derived.Test.YtcaobalijnajgaaArmU
namespace Go.Proofs.Ytcaobalijnajgaa.fnArmCovers
open Go.ChangeShapes Go.WideShapes Go.ChangeAt Go.RowKit
open Go.ChangeMaps (open_string shut_string)
set_option linter.unusedVariables false
set_option maxRecDepth 100000

set_option maxHeartbeats 16000000 in
theorem walk (A : Option Addr) (n c : Nat) (zs : List Int) (w : World) (h : SB w w.heap.size A n c zs) :
    Calls Try.prog 6 #[.slice A n c] w fun e w' => e = .returned (.bool true) ∧ Below w.heap.size w w' := by
  have hm := h.max
  have hcap := h.cap
  unfold maxLen at hm
  have HS0 := Lib.hid h
  clear h
  by_cases hbig : 1048576 < (n : Int)
  · go_enter Try.func6, Try.ntmps6
    go_wp2
    go_ret
    exact ⟨rfl, Below.refl _ _⟩
  go_enter Try.func6, Try.ntmps6
  go_wp2_with fail
  refine (drawArmCovers_any A n c zs _ HS0.out).mono ?_
  rintro e w1 ⟨Aa, ca, dsa, ba, x1, y1, x2, y2, rfl, hna, hsma, hbda, hx1, hy1, hx2, hy2, hsa, hb⟩
  have HB_1 := Lib.hid hb
  have Sa_1 := Lib.hid hsa
  have HSMa := Lib.hid hsma
  have HOKa : Hid (∀ d ∈ dsa, d.ok) := Lib.hid (fun d hd => small_ok (hsma d hd))
  have HBDa := Lib.hid hbda
  have I11 : I64 x1 := by unfold I64; omega
  have I12 : I64 y1 := by unfold I64; omega
  have I21 : I64 x2 := by unfold I64; omega
  have I22 : I64 y2 := by unfold I64; omega
  clear hb hsa hsma hbda
  obtain ⟨w2, hw⟩ : ∃ W : World, W = (((w1.alloc (.cells #[.slice Aa dsa.length ca, .int .i64 ba] 25)).alloc (.cells #[.int .i64 x1, .int .i64 y1] 27)).alloc (.cells #[.int .i64 x2, .int .i64 y2] 27)) := ⟨_, rfl⟩
  have hb : Below w1.heap.size w1 w2 := by rw [hw]; exact ((((Below.refl _ _).alloc (by first | exact Nat.le_refl _ | (simp; done) | (simp; omega)) _).alloc (by first | exact Nat.le_refl _ | (simp; done) | (simp; omega)) _).alloc (by first | exact Nat.le_refl _ | (simp; done) | (simp; omega)) _)
  have Sa_2 := Lib.hid ((Sa_1.out.below hb).call hb.size)
  have HB_2 : Hid (Below w.heap.size w w2) := Lib.hid (HB_1.out.trans (hb.mono HB_1.out.size))
  have ba_2 : w2.cell? ⟨w1.heap.size, 0, none⟩ = some (.slice Aa dsa.length ca) := by rw [hw]; simp [go_sem]
  have va_2 : w2.cell? ⟨w1.heap.size, 1, none⟩ = some (.int .i64 ba) := by rw [hw]; simp [go_sem]
  have p1_2 : w2.cell? ⟨w1.heap.size + 1, 0, none⟩ = some (.int .i64 x1) := by rw [hw]; simp [go_sem]
  have q1_2 : w2.cell? ⟨w1.heap.size + 1, 1, none⟩ = some (.int .i64 y1) := by rw [hw]; simp [go_sem]
  have p2_2 : w2.cell? ⟨w1.heap.size + 1 + 1, 0, none⟩ = some (.int .i64 x2) := by rw [hw]; simp [go_sem]
  have q2_2 : w2.cell? ⟨w1.heap.size + 1 + 1, 1, none⟩ = some (.int .i64 y2) := by rw [hw]; simp [go_sem]
  have lf_ba : (((w1.alloc (.cells #[.slice Aa dsa.length ca, .int .i64 ba] 25)).alloc (.cells #[.int .i64 x1, .int .i64 y1] 27)).alloc (.cells #[.int .i64 x2, .int .i64 y2] 27)).cell? ⟨w1.heap.size, 0, none⟩ = some (.slice Aa dsa.length ca) := by rw [← hw]; exact ba_2
  have lf_va : (((w1.alloc (.cells #[.slice Aa dsa.length ca, .int .i64 ba] 25)).alloc (.cells #[.int .i64 x1, .int .i64 y1] 27)).alloc (.cells #[.int .i64 x2, .int .i64 y2] 27)).cell? ⟨w1.heap.size, 1, none⟩ = some (.int .i64 ba) := by rw [← hw]; exact va_2
  have lf_p1 : (((w1.alloc (.cells #[.slice Aa dsa.length ca, .int .i64 ba] 25)).alloc (.cells #[.int .i64 x1, .int .i64 y1] 27)).alloc (.cells #[.int .i64 x2, .int .i64 y2] 27)).cell? ⟨w1.heap.size + 1, 0, none⟩ = some (.int .i64 x1) := by rw [← hw]; exact p1_2
  have lf_q1 : (((w1.alloc (.cells #[.slice Aa dsa.length ca, .int .i64 ba] 25)).alloc (.cells #[.int .i64 x1, .int .i64 y1] 27)).alloc (.cells #[.int .i64 x2, .int .i64 y2] 27)).cell? ⟨w1.heap.size + 1, 1, none⟩ = some (.int .i64 y1) := by rw [← hw]; exact q1_2
  have lf_p2 : (((w1.alloc (.cells #[.slice Aa dsa.length ca, .int .i64 ba] 25)).alloc (.cells #[.int .i64 x1, .int .i64 y1] 27)).alloc (.cells #[.int .i64 x2, .int .i64 y2] 27)).cell? ⟨w1.heap.size + 1 + 1, 0, none⟩ = some (.int .i64 x2) := by rw [← hw]; exact p2_2
  have lf_q2 : (((w1.alloc (.cells #[.slice Aa dsa.length ca, .int .i64 ba] 25)).alloc (.cells #[.int .i64 x1, .int .i64 y1] 27)).alloc (.cells #[.int .i64 x2, .int .i64 y2] 27)).cell? ⟨w1.heap.size + 1 + 1, 1, none⟩ = some (.int .i64 y2) := by rw [← hw]; exact q2_2
  have HW2 : Hid ((((w1.alloc (.cells #[.slice Aa dsa.length ca, .int .i64 ba] 25)).alloc (.cells #[.int .i64 x1, .int .i64 y1] 27)).alloc (.cells #[.int .i64 x2, .int .i64 y2] 27)) = w2) := Lib.hid hw.symm
  clear hb hw Sa_1 HB_1
  obtain ⟨v, hv⟩ : ∃ v, mCover dsa ba ⟨x1, y1⟩ ⟨x2, y2⟩ = v := ⟨_, rfl⟩
  obtain ⟨va, hva⟩ : ∃ v, mArm dsa ba ⟨x1, y1⟩ = v := ⟨_, rfl⟩
  obtain ⟨vb, hvb⟩ : ∃ v, mArm dsa ba ⟨x2, y2⟩ = v := ⟨_, rfl⟩
  have HV := Lib.hid hv
  have HVA := Lib.hid hva
  have HVB := Lib.hid hvb
  clear hv hva hvb
  go_wp2_with fail
  rw [HW2.out]
  clear lf_ba lf_va lf_p1 lf_q1 lf_p2 lf_q2
  refine (implCover_v dsa ba x1 y1 x2 y2 _ _ _ _ Sa_2.out (by omega) I11 I12 I21 I22 HV.out).mono ?_
  rintro e w3 ⟨rfl, hb⟩
  have ba_3 := keep1 hb ba_2
  have va_3 := keep1 hb va_2
  have p1_3 := keep1 hb p1_2
  have q1_3 := keep1 hb q1_2
  have p2_3 := keep1 hb p2_2
  have q2_3 := keep1 hb q2_2
  have Sa_3 := Lib.hid ((Sa_2.out.below hb).call hb.size)
  have HB_3 : Hid (Below w.heap.size w w3) := Lib.hid (HB_2.out.trans (hb.mono HB_2.out.size))
  clear hb  ba_2 va_2 p1_2 q1_2 p2_2 q2_2 Sa_2 HB_2
  go_wp2_with fail
  refine (specCover_v dsa ba x1 y1 x2 y2 _ _ _ _ Sa_3.out HV.out).mono ?_
  rintro e w4 ⟨rfl, hb⟩
  have ba_4 := keep1 hb ba_3
  have va_4 := keep1 hb va_3
  have p1_4 := keep1 hb p1_3
  have q1_4 := keep1 hb q1_3
  have p2_4 := keep1 hb p2_3
  have q2_4 := keep1 hb q2_3
  have Sa_4 := Lib.hid ((Sa_3.out.below hb).call hb.size)
  have HB_4 : Hid (Below w.heap.size w w4) := Lib.hid (HB_3.out.trans (hb.mono HB_3.out.size))
  clear hb  ba_3 va_3 p1_3 q1_3 p2_3 q2_3 Sa_3 HB_3
  go_wp2_with fail
  refine (implValidArm_v dsa ba x1 y1 _ _ _ _ Sa_4.out (by omega) I11 I12 HVA.out).mono ?_
  rintro e w5 ⟨rfl, hb⟩
  have ba_5 := keep1 hb ba_4
  have va_5 := keep1 hb va_4
  have p1_5 := keep1 hb p1_4
  have q1_5 := keep1 hb q1_4
  have p2_5 := keep1 hb p2_4
  have q2_5 := keep1 hb q2_4
  have Sa_5 := Lib.hid ((Sa_4.out.below hb).call hb.size)
  have HB_5 : Hid (Below w.heap.size w w5) := Lib.hid (HB_4.out.trans (hb.mono HB_4.out.size))
  clear hb  ba_4 va_4 p1_4 q1_4 p2_4 q2_4 Sa_4 HB_4
  cases va
  · skip
    go_wp2_with fail
    refine (specCover_v dsa ba x1 y1 x2 y2 _ _ _ _ Sa_5.out HV.out).mono ?_
    rintro e w6 ⟨rfl, hb⟩
    have ba_6 := keep1 hb ba_5
    have va_6 := keep1 hb va_5
    have p1_6 := keep1 hb p1_5
    have q1_6 := keep1 hb q1_5
    have p2_6 := keep1 hb p2_5
    have q2_6 := keep1 hb q2_5
    have Sa_6 := Lib.hid ((Sa_5.out.below hb).call hb.size)
    have HB_6 : Hid (Below w.heap.size w w6) := Lib.hid (HB_5.out.trans (hb.mono HB_5.out.size))
    clear hb  ba_5 va_5 p1_5 q1_5 p2_5 q2_5 Sa_5 HB_5
    go_wp2
    go_ret
    exact ⟨rfl, HB_6.out⟩
  go_wp2_with fail
  refine (implValidArm_v dsa ba x2 y2 _ _ _ _ Sa_5.out (by omega) I21 I22 HVB.out).mono ?_
  rintro e w6 ⟨rfl, hb⟩
  have ba_6 := keep1 hb ba_5
  have va_6 := keep1 hb va_5
  have p1_6 := keep1 hb p1_5
  have q1_6 := keep1 hb q1_5
  have p2_6 := keep1 hb p2_5
  have q2_6 := keep1 hb q2_5
  have Sa_6 := Lib.hid ((Sa_5.out.below hb).call hb.size)
  have HB_6 : Hid (Below w.heap.size w w6) := Lib.hid (HB_5.out.trans (hb.mono HB_5.out.size))
  clear hb  ba_5 va_5 p1_5 q1_5 p2_5 q2_5 Sa_5 HB_5
  cases vb
  · skip
    go_wp2_with fail
    refine (specCover_v dsa ba x1 y1 x2 y2 _ _ _ _ Sa_6.out HV.out).mono ?_
    rintro e w7 ⟨rfl, hb⟩
    have ba_7 := keep1 hb ba_6
    have va_7 := keep1 hb va_6
    have p1_7 := keep1 hb p1_6
    have q1_7 := keep1 hb q1_6
    have p2_7 := keep1 hb p2_6
    have q2_7 := keep1 hb q2_6
    have Sa_7 := Lib.hid ((Sa_6.out.below hb).call hb.size)
    have HB_7 : Hid (Below w.heap.size w w7) := Lib.hid (HB_6.out.trans (hb.mono HB_6.out.size))
    clear hb  ba_6 va_6 p1_6 q1_6 p2_6 q2_6 Sa_6 HB_6
    go_wp2
    go_ret
    exact ⟨rfl, HB_7.out⟩
  obtain ⟨p, q, rfl, rfl, hp, hq, bp, bq, dp, HFLp⟩ := arm_nat HVA.out
  obtain ⟨r, s, rfl, rfl, hr, hs, br, bs, dr, HFLr⟩ := arm_nat HVB.out
  obtain ⟨m, qm⟩ : ∃ m, mMask dsa = m := ⟨_, rfl⟩
  have hm : m < 4096 := by rw [← qm]; exact mMask_lt12 (vFlag_in HFLp)
  have HVm : Hid (mIsV dsa ba (m : Nat) = true) := Lib.hid (by rw [← qm]; exact v_mask HFLp)
  have HMK : Hid (mMaskOf dsa ba = (m : Int)) := Lib.hid (by rw [← qm]; exact if_yes HFLp)
  have HVp : Hid (mIsV dsa ba (p : Nat) = true) := Lib.hid (v_part HFLp bp)
  have HVq : Hid (mIsV dsa ba (q : Nat) = true) := Lib.hid (v_part HFLp bq)
  have HVr : Hid (mIsV dsa ba (r : Nat) = true) := Lib.hid (v_part HFLp br)
  have HVs : Hid (mIsV dsa ba (s : Nat) = true) := Lib.hid (v_part HFLp bs)
  rw [qm] at bp bq br bs
  obtain ⟨l, ql⟩ : ∃ l, nl m s = l := ⟨_, rfl⟩
  have hl : l < 4096 := by rw [← ql]; exact nl_lt hm
  have HVl : Hid (mIsV dsa ba (l : Nat) = true) := Lib.hid (by rw [← ql]; exact v_nl HVm.out (q := s))
  have H1 : Hid (mOp nl dsa ba (m : Nat) (s : Nat) = (l : Int)) := Lib.hid (op_is HVm.out HVs.out (by exact ql))
  obtain ⟨v1, q1⟩ : ∃ v, matchN p q r = v := ⟨_, rfl⟩
  obtain ⟨v2, q2⟩ : ∃ v, matchN p q l = v := ⟨_, rfl⟩
  have HM1 : Hid (mMatch dsa ba ⟨(p : Int), (q : Int)⟩ (r : Nat) = v1) := Lib.hid (match_is HVA.out HVr.out q1)
  have HM2 : Hid (mMatch dsa ba ⟨(p : Int), (q : Int)⟩ (l : Nat) = v2) := Lib.hid (match_is HVA.out HVl.out q2)
  have hc : coverN p q r s = (v1 && v2) := by rw [← q1, ← q2, ← ql]; exact cover_ends bp bq br dp dr
  have hv := cover_is HVA.out HVB.out hc
  rw [HV.out] at hv
  obtain ⟨c1, k1⟩ : ∃ c, 2 ^ popc (nl m (p ||| q)) = c := ⟨_, rfl⟩
  obtain ⟨c2, k2⟩ : ∃ c, 2 ^ popc (nl m (r ||| s)) = c := ⟨_, rfl⟩
  have HC1 : Hid (mCountA dsa ba ⟨(p : Int), (q : Int)⟩ = (c1 : Int)) := Lib.hid (count_is HVA.out (by rw [qm]; exact k1))
  have HC2 : Hid (mCountA dsa ba ⟨(r : Int), (s : Int)⟩ = (c2 : Int)) := Lib.hid (count_is HVB.out (by rw [qm]; exact k2))
  have hle : (v1 && v2) = true → c2 ≤ c1 := fun h => by rw [← k1, ← k2]; exact cover_count (hc.trans h)
  have hme : (v1 && v2) = true → mMeet dsa ba ⟨(p : Int), (q : Int)⟩ ⟨(r : Int), (s : Int)⟩ = true := fun h => meet_is HVA.out HVB.out (cover_meet (hc.trans h) dr)
  have HLE := Lib.hid hle
  have HME := Lib.hid hme
  have HVV := Lib.hid hv
  clear HFLp HFLr bp bq br bs dp dr hv q1 q2 hc hle hme k1 k2
  clear qm ql
  go_wp2_with fail
  go_region_held3 (fun w' => w'.cell? ⟨w1.heap.size, 0, none⟩ = some (.slice Aa dsa.length ca) ∧ w'.cell? ⟨w1.heap.size, 1, none⟩ = some (.int .i64 ba) ∧ w'.cell? ⟨w1.heap.size + 1 + 1, 1, none⟩ = some (.int .i64 s))
    (first | go_keep | exact ⟨ba_6, va_6, q2_6⟩ | exact ⟨ba_7, va_7, q2_7⟩ | exact ⟨ba_8, va_8, q2_8⟩)
    (first
      | (go_at_call 19; refine (implMaskOf_v dsa ba _ _ _ _ (Sa_6.out.drewN 1) (by omega) HMK.out).mono ?_; rintro e w7 ⟨rfl, hb⟩; replace hb : Below w6.heap.size w6 w7 := (by first | exact hb | exact undrew hb); have ba_7 := keep1 hb ba_6; have va_7 := keep1 hb va_6; have p1_7 := keep1 hb p1_6; have q1_7 := keep1 hb q1_6; have p2_7 := keep1 hb p2_6; have q2_7 := keep1 hb q2_6; have Sa_7 := Lib.hid ((Sa_6.out.below hb).call hb.size); have HB_7 : Hid (Below w.heap.size w w7) := Lib.hid (HB_6.out.trans (hb.mono HB_6.out.size)); clear hb)
      | (go_at_call 18; refine (implLess_v dsa ba m s _ _ _ _ Sa_7.out (by omega) H1.out).mono ?_; rintro e w8 ⟨rfl, hb⟩; have ba_8 := keep1 hb ba_7; have va_8 := keep1 hb va_7; have p1_8 := keep1 hb p1_7; have q1_8 := keep1 hb q1_7; have p2_8 := keep1 hb p2_7; have q2_8 := keep1 hb q2_7; have Sa_8 := Lib.hid ((Sa_7.out.below hb).call hb.size); have HB_8 : Hid (Below w.heap.size w w8) := Lib.hid (HB_7.out.trans (hb.mono HB_7.out.size)); clear hb))
  go_wp2_with fail
  refine (implMatchArm_v dsa ba p q r _ _ _ _ Sa_8.out (by omega) I11 I12 HM1.out).mono ?_
  rintro e w9 ⟨rfl, hb⟩
  have ba_9 := keep1 hb ba_8
  have va_9 := keep1 hb va_8
  have p1_9 := keep1 hb p1_8
  have q1_9 := keep1 hb q1_8
  have p2_9 := keep1 hb p2_8
  have q2_9 := keep1 hb q2_8
  have Sa_9 := Lib.hid ((Sa_8.out.below hb).call hb.size)
  have HB_9 : Hid (Below w.heap.size w w9) := Lib.hid (HB_8.out.trans (hb.mono HB_8.out.size))
  clear hb  ba_8 va_8 p1_8 q1_8 p2_8 q2_8 Sa_8 HB_8
  obtain rfl := HVV.out
  clear HVV
  cases v1
  · skip
    clear HLE HME
    go_wp2_with fail
    go_quiet (fail)
    go_wp2
    go_ret
    exact ⟨rfl, by first | exact HB_9.out.drew | exact below_drewN HB_9.out _⟩
  go_wp2_with fail
  refine (implMatchArm_v dsa ba p q l _ _ _ _ Sa_9.out (by omega) I11 I12 HM2.out).mono ?_
  rintro e w10 ⟨rfl, hb⟩
  have ba_10 := keep1 hb ba_9
  have va_10 := keep1 hb va_9
  have p1_10 := keep1 hb p1_9
  have q1_10 := keep1 hb q1_9
  have p2_10 := keep1 hb p2_9
  have q2_10 := keep1 hb q2_9
  have Sa_10 := Lib.hid ((Sa_9.out.below hb).call hb.size)
  have HB_10 : Hid (Below w.heap.size w w10) := Lib.hid (HB_9.out.trans (hb.mono HB_9.out.size))
  clear hb  ba_9 va_9 p1_9 q1_9 p2_9 q2_9 Sa_9 HB_9
  cases v2
  · skip
    clear HLE HME
    go_wp2_with fail
    go_quiet (fail)
    go_wp2
    go_ret
    exact ⟨rfl, by first | exact HB_10.out.drew | exact below_drewN HB_10.out _⟩
  have HM := Lib.hid (HME.out rfl)
  have hcc := HLE.out rfl
  have hci : (c2 : Int) ≤ (c1 : Int) := by omega
  clear HLE HME hcc
  go_wp2_with fail
  go_region_held3 (fun w' => w'.cell? ⟨w1.heap.size, 0, none⟩ = some (.slice Aa dsa.length ca) ∧ w'.cell? ⟨w1.heap.size, 1, none⟩ = some (.int .i64 ba) ∧ w'.cell? ⟨w1.heap.size + 1, 0, none⟩ = some (.int .i64 p) ∧ w'.cell? ⟨w1.heap.size + 1, 1, none⟩ = some (.int .i64 q) ∧ w'.cell? ⟨w1.heap.size + 1 + 1, 0, none⟩ = some (.int .i64 r) ∧ w'.cell? ⟨w1.heap.size + 1 + 1, 1, none⟩ = some (.int .i64 s))
    (first | go_keep | exact ⟨ba_10, va_10, p1_10, q1_10, p2_10, q2_10⟩ | exact ⟨ba_11, va_11, p1_11, q1_11, p2_11, q2_11⟩ | exact ⟨ba_12, va_12, p1_12, q1_12, p2_12, q2_12⟩ | exact ⟨ba_13, va_13, p1_13, q1_13, p2_13, q2_13⟩)
    (first
      | (go_at_call_of 29 p; refine (implCountA_v dsa ba p q _ _ _ _ (Sa_10.out.drewN 1) (by omega) I11 I12 HC1.out).mono ?_; rintro e w11 ⟨rfl, hb⟩; replace hb : Below w10.heap.size w10 w11 := (by first | exact hb | exact undrew hb); have ba_11 := keep1 hb ba_10; have va_11 := keep1 hb va_10; have p1_11 := keep1 hb p1_10; have q1_11 := keep1 hb q1_10; have p2_11 := keep1 hb p2_10; have q2_11 := keep1 hb q2_10; have Sa_11 := Lib.hid ((Sa_10.out.below hb).call hb.size); have HB_11 : Hid (Below w.heap.size w w11) := Lib.hid (HB_10.out.trans (hb.mono HB_10.out.size)); clear hb)
      | (go_at_call_of 29 r; refine (implCountA_v dsa ba r s _ _ _ _ Sa_11.out (by omega) I21 I22 HC2.out).mono ?_; rintro e w12 ⟨rfl, hb⟩; have ba_12 := keep1 hb ba_11; have va_12 := keep1 hb va_11; have p1_12 := keep1 hb p1_11; have q1_12 := keep1 hb q1_11; have p2_12 := keep1 hb p2_11; have q2_12 := keep1 hb q2_11; have Sa_12 := Lib.hid ((Sa_11.out.below hb).call hb.size); have HB_12 : Hid (Below w.heap.size w w12) := Lib.hid (HB_11.out.trans (hb.mono HB_11.out.size)); clear hb)
      | (go_at_call 23; refine (implMeet_v dsa ba p q r s _ _ _ _ Sa_12.out (by omega) I11 I12 I21 I22 HM.out).mono ?_; rintro e w13 ⟨rfl, hb⟩; have ba_13 := keep1 hb ba_12; have va_13 := keep1 hb va_12; have p1_13 := keep1 hb p1_12; have q1_13 := keep1 hb q1_12; have p2_13 := keep1 hb p2_12; have q2_13 := keep1 hb q2_12; have Sa_13 := Lib.hid ((Sa_12.out.below hb).call hb.size); have HB_13 : Hid (Below w.heap.size w w13) := Lib.hid (HB_12.out.trans (hb.mono HB_12.out.size)); clear hb))
  go_wp2
  go_ret
  exact ⟨rfl, HB_13.out⟩

theorem lifted (os : Os) (started : os.Started) (H : Type) (enc : TypeId × Value → H) :
    ReturnsInHanded {} Try.checked os 6 .any (Rows.fnArmCoversSpec.pre6 enc Try.prog Try.f6 Rows.fnArmCoversRow.domain false) (Rows.fnArmCoversSpec.post enc Try.prog Try.f6 false true false false) := by
  refine returnsInHanded_of_change (C := Try.checked) own started (by kernel_rfl) Try.func6
    (ChangeSpec.witness6 (enc := enc) (C := Try.checked) false ⟨#[], #[.slice none 0 0], []⟩ 8 (by kernel_rfl) (by kernel_rfl) (by kernel_rfl) (by kernel_rfl)) ?_
  intro W base args ds gs before hval0 hW hcnd _
  have hval : ∀ (j : Nat) t v, Try.f6.params[j]? = some t → args[j]? = some v → Value.okWide Try.prog W .any base t v := hval0
  have hW' := hW
  obtain ⟨p, q, hA0, hV, rfl, hfz, hnd⟩ := hW
  have hA : DataW.TrodAll enc Try.prog W 0 (fun _ => true) true Try.f6.params.toList args.toList ds p := hA0
  rw [Try.params6] at hA hval
  obtain ⟨v0, vs0, d0, ds0, p0, q0, hargs, rfl, rfl, h0, r0⟩ := trodAll_cons hA
  obtain ⟨rfl, rfl, rfl⟩ := trodAll_nil r0
  obtain rfl : args = #[v0] := by cases args; simp_all
  obtain ⟨rfl, rfl⟩ := trodVars_none hV
  have k0 := h0
  have lt0 : ∀ x ∈ p0, x.block < W.heap.size := by obtain ⟨m, hm⟩ := k0; exact DataW.trod_lt m _ _ _ hm
  obtain ⟨A0, n0, c0, l0, rfl, w0⟩ := open_code (hval 0 22 v0 rfl rfl) h0
  clear hA0 hval0
  refine (walk A0 n0 c0 l0 W w0).mono fun e W' ⟨he, bel⟩ => ?_
  subst he
  exact ⟨_, rfl, _, _, _, [], _, [], hW', trodAll_mk1 (shut_bool Try.underlying4 _), (trodAll_cons_mk (Below.trod laidOut (by kernel_rfl) (of_decide_eq_true (by kernel_rfl)) k0 bel lt0) trodAll_mk0), rfl, bel.frame _, fun h => by cases h⟩

theorem over : Rows.fnArmCoversRow.holds Try.pinned (OpenSpec.ofChange Rows.fnArmCoversSpec) :=
  OpenClaim.holds_of_wide 6 Try.f6 rfl rfl rfl rfl rfl rfl rfl ⟨rfl, rfl, rfl, rfl, rfl⟩ rfl rfl rfl rfl rfl (by kernel_rfl) Try.func6 (by kernel_rfl)
    (of_decide_eq_true (by kernel_rfl)) (by unfold Func.isWrapper; first | (rw [if_pos (by decide +kernel)]; kernel_rfl) | (rw [if_neg (by decide +kernel)]; exact ⟨rfl, rfl⟩))
    (fun os started H enc _ => lifted os started H enc)

theorem proved : Rows.FnArmCoversSaid := over
end Go.Proofs.Ytcaobalijnajgaa.fnArmCovers
