import Derived.Test.YtcaobalijnajgaaArmS
import Derived.Test.YtcaobalijnajgaaArmJ
namespace Go.Proofs.Ytcaobalijnajgaa
open Go.RowKit Go.Maps
set_option linter.unusedVariables false
set_option maxRecDepth 100000

set_option maxHeartbeats 4000000 in
theorem specMeet_v (ds : List D) (b : Int) (x y x2 y2 : Int) (A : Option Addr) (m c : Nat) (w : World) (hr : SD w w.heap.size A m c ds) {v : Bool} (hv : mMeet ds b ⟨x, y⟩ ⟨x2, y2⟩ = v) :
    Calls Try.prog 24 #[.agg #[.slice A m c, .int .i64 b], .agg #[.int .i64 x, .int .i64 y], .agg #[.int .i64 x2, .int .i64 y2]] w (fun e w' => e = .returned (.bool v) ∧ Below w.heap.size w w') := by
  subst hv
  have HF := Lib.hid (((FB.start hr b).alloc (.cells #[.int .i64 x, .int .i64 y] 27)).alloc (.cells #[.int .i64 x2, .int .i64 y2] 27))
  have HC : Hid (C2 (((w.alloc (.cells #[.slice A m c, .int .i64 b] 25)).alloc (.cells #[.int .i64 x, .int .i64 y] 27)).alloc (.cells #[.int .i64 x2, .int .i64 y2] 27)) (w.heap.size + 1) (.int .i64 x) (.int .i64 y)) := Lib.hid ((c2New' _ _ _ _ _).below ((Below.refl _ _).alloc (Nat.le_refl _) _))
  have HC2 : Hid (C2 (((w.alloc (.cells #[.slice A m c, .int .i64 b] 25)).alloc (.cells #[.int .i64 x, .int .i64 y] 27)).alloc (.cells #[.int .i64 x2, .int .i64 y2] 27)) (w.heap.size + 2) (.int .i64 x2) (.int .i64 y2)) := Lib.hid (by have := c2New' (w.alloc (.cells #[.slice A m c, .int .i64 b] 25)) (.cells #[.int .i64 x, .int .i64 y] 27) (.int .i64 x2) (.int .i64 y2) 27; simpa using this)
  have hz0 : (((w.alloc (.cells #[.slice A m c, .int .i64 b] 25)).alloc (.cells #[.int .i64 x, .int .i64 y] 27)).alloc (.cells #[.int .i64 x2, .int .i64 y2] 27)).heap.size = w.heap.size + 1 + 1 + 1 := by simp
  clear hr
  cases hm : mArm ds b ⟨x, y⟩
  · have HA := Lib.hid hm
    have HM : Hid (mMeet ds b ⟨x, y⟩ ⟨x2, y2⟩ = false) := Lib.hid (by unfold mMeet mTwoArms; rw [hm]; rfl)
    clear hm
    go_enter Try.func24, Try.ntmps24
    go_wp2_with fail
    generalize (((w.alloc (.cells #[.slice A m c, .int .i64 b] 25)).alloc (.cells #[.int .i64 x, .int .i64 y] 27)).alloc (.cells #[.int .i64 x2, .int .i64 y2] 27)) = w0 at *
    refine (validArm_v ds b x y _ _ _ _ HF.out.sd HA.out).mono ?_
    rintro e w1 ⟨rfl, hb⟩
    have HB1 := Lib.hid (HF.out.after hb)
    clear hb
    go_wp2
    go_ret
    exact ⟨by rw [HM.out]; first | done | rfl, HB1.out⟩
  have HA := Lib.hid hm
  obtain ⟨p, q, e1, e2, hp, hq, _⟩ := mArm_nat hm
  simp only at e1 e2
  subst e1 e2
  clear hm
  cases hm2 : mArm ds b ⟨x2, y2⟩
  · have HA2 := Lib.hid hm2
    have HM : Hid (mMeet ds b ⟨p, q⟩ ⟨x2, y2⟩ = false) := Lib.hid (by unfold mMeet mTwoArms; rw [HA.out, hm2]; rfl)
    clear hm2
    go_enter Try.func24, Try.ntmps24
    go_wp2_with fail
    generalize (((w.alloc (.cells #[.slice A m c, .int .i64 b] 25)).alloc (.cells #[.int .i64 (p : Int), .int .i64 (q : Int)] 27)).alloc (.cells #[.int .i64 x2, .int .i64 y2] 27)) = w0 at *
    have c0 := HF.out.c0
    have c1 := HF.out.c1
    have a0 := HC.out.c0
    have a1 := HC.out.c1
    have b0 := HC2.out.c0
    have b1 := HC2.out.c1
    refine (validArm_v ds b p q _ _ _ _ HF.out.sd HA.out).mono ?_
    rintro e w1 ⟨rfl, hb⟩
    have HF1 := Lib.hid (HF.out.call hb)
    have HC1 := Lib.hid (HC.out.below hb)
    have HD1 := Lib.hid (HC2.out.below hb)
    clear hb HF HC HC2 c0 c1 a0 a1 b0 b1
    have c0 := HF1.out.c0
    have c1 := HF1.out.c1
    have a0 := HC1.out.c0
    have a1 := HC1.out.c1
    have b0 := HD1.out.c0
    have b1 := HD1.out.c1
    go_wp2_with fail
    refine (validArm_v ds b x2 y2 _ _ _ _ HF1.out.sd HA2.out).mono ?_
    rintro e w2 ⟨rfl, hb⟩
    have HC3 := Lib.hid (HC1.out.below hb)
    have HD3 := Lib.hid (HD1.out.below hb)
    have HB2 := Lib.hid (HF1.out.after hb)
    clear hb HF1 HC1 HD1 c0 c1 a0 a1 b0 b1
    have a0 := HC3.out.c0
    have a1 := HC3.out.c1
    have b0 := HD3.out.c0
    have b1 := HD3.out.c1
    go_wp2
    go_ret
    exact ⟨by rw [HM.out]; first | done | rfl, HB2.out⟩
  have HA2 := Lib.hid hm2
  obtain ⟨r, s, e3, e4, hr, hs, _⟩ := mArm_nat hm2
  simp only at e3 e4
  subst e3 e4
  clear hm2
  obtain ⟨a, ha⟩ : ∃ a, p &&& s = a := ⟨_, rfl⟩
  obtain ⟨d, hd⟩ : ∃ a, r &&& q = a := ⟨_, rfl⟩
  have HS1 := Lib.hid ha
  have HS2 := Lib.hid hd
  have hM : mMeet ds b ⟨p, q⟩ ⟨r, s⟩ = (decide (a = 0) && decide (d = 0)) := by unfold mMeet mTwoArms meetN; rw [HA.out, HA2.out]; simp [ha, Nat.and_comm q r, hd]
  clear ha hd
  by_cases h0 : a = 0
  · subst h0
    have HM := Lib.hid hM
    clear hM
    go_enter Try.func24, Try.ntmps24
    go_wp2_with fail
    generalize (((w.alloc (.cells #[.slice A m c, .int .i64 b] 25)).alloc (.cells #[.int .i64 (p : Int), .int .i64 (q : Int)] 27)).alloc (.cells #[.int .i64 (r : Int), .int .i64 (s : Int)] 27)) = w0 at *
    have c0 := HF.out.c0
    have c1 := HF.out.c1
    have a0 := HC.out.c0
    have a1 := HC.out.c1
    have b0 := HC2.out.c0
    have b1 := HC2.out.c1
    refine (validArm_v ds b p q _ _ _ _ HF.out.sd HA.out).mono ?_
    rintro e w1 ⟨rfl, hb⟩
    have HF1 := Lib.hid (HF.out.call hb)
    have HC1 := Lib.hid (HC.out.below hb)
    have HD1 := Lib.hid (HC2.out.below hb)
    clear hb HF HC HC2 c0 c1 a0 a1 b0 b1
    have c0 := HF1.out.c0
    have c1 := HF1.out.c1
    have a0 := HC1.out.c0
    have a1 := HC1.out.c1
    have b0 := HD1.out.c0
    have b1 := HD1.out.c1
    go_wp2_with fail
    refine (validArm_v ds b r s _ _ _ _ HF1.out.sd HA2.out).mono ?_
    rintro e w2 ⟨rfl, hb⟩
    have HC3 := Lib.hid (HC1.out.below hb)
    have HD3 := Lib.hid (HD1.out.below hb)
    have HB2 := Lib.hid (HF1.out.after hb)
    clear hb HF1 HC1 HD1 c0 c1 a0 a1 b0 b1
    have a0 := HC3.out.c0
    have a1 := HC3.out.c1
    have b0 := HD3.out.c0
    have b1 := HD3.out.c1
    go_wp2_with (first | (go_at_call_of 54 p; refine (both_v p s _ hp hs HS1.out).mono ?_; rintro e w' ⟨rfl, rfl⟩) | (go_at_call_of 54 r; refine (both_v r q _ hr hq HS2.out).mono ?_; rintro e w' ⟨rfl, rfl⟩))
    go_ret
    exact ⟨ret_bool (by rw [HM.out, Bool.eq_iff_iff]; simp), HB2.out⟩
  · have e1 : ((a : Int) == 0) = false := by rw [beq_eq_false_iff_ne]; omega
    have HM : Hid (mMeet ds b ⟨p, q⟩ ⟨r, s⟩ = false) := Lib.hid (by rw [hM, decide_eq_false h0]; rfl)
    clear hM
    go_enter Try.func24, Try.ntmps24
    go_wp2_with fail
    generalize (((w.alloc (.cells #[.slice A m c, .int .i64 b] 25)).alloc (.cells #[.int .i64 (p : Int), .int .i64 (q : Int)] 27)).alloc (.cells #[.int .i64 (r : Int), .int .i64 (s : Int)] 27)) = w0 at *
    have c0 := HF.out.c0
    have c1 := HF.out.c1
    have a0 := HC.out.c0
    have a1 := HC.out.c1
    have b0 := HC2.out.c0
    have b1 := HC2.out.c1
    refine (validArm_v ds b p q _ _ _ _ HF.out.sd HA.out).mono ?_
    rintro e w1 ⟨rfl, hb⟩
    have HF1 := Lib.hid (HF.out.call hb)
    have HC1 := Lib.hid (HC.out.below hb)
    have HD1 := Lib.hid (HC2.out.below hb)
    clear hb HF HC HC2 c0 c1 a0 a1 b0 b1
    have c0 := HF1.out.c0
    have c1 := HF1.out.c1
    have a0 := HC1.out.c0
    have a1 := HC1.out.c1
    have b0 := HD1.out.c0
    have b1 := HD1.out.c1
    go_wp2_with fail
    refine (validArm_v ds b r s _ _ _ _ HF1.out.sd HA2.out).mono ?_
    rintro e w2 ⟨rfl, hb⟩
    have HC3 := Lib.hid (HC1.out.below hb)
    have HD3 := Lib.hid (HD1.out.below hb)
    have HB2 := Lib.hid (HF1.out.after hb)
    clear hb HF1 HC1 HD1 c0 c1 a0 a1 b0 b1
    have a0 := HC3.out.c0
    have a1 := HC3.out.c1
    have b0 := HD3.out.c0
    have b1 := HD3.out.c1
    go_wp2_with (first | (go_at_call_of 54 p; refine (both_v p s _ hp hs HS1.out).mono ?_; rintro e w' ⟨rfl, rfl⟩))
    go_ret
    exact ⟨by rw [HM.out]; first | done | rfl, HB2.out⟩

set_option maxHeartbeats 1000000 in
theorem specCovers_v (p q r s : Nat) (w : World) (hp : p < 4096) (hq : q < 4096) (hr : r < 4096) (hs : s < 4096) {v : Bool} (hv : coverN p q r s = v) :
    Calls Try.prog 56 #[.agg #[.int .i64 p, .int .i64 q], .agg #[.int .i64 r, .int .i64 s]] w fun e w' => e = .returned (.bool v) ∧ Below w.heap.size w w' := by
  subst hv
  have HB0 : Hid (Below w.heap.size w ((w.alloc (.cells #[.int .i64 p, .int .i64 q] 27)).alloc (.cells #[.int .i64 r, .int .i64 s] 27))) := Lib.hid (((Below.refl _ _).alloc (Nat.le_refl _) _).alloc (by simp) _)
  obtain ⟨s1, h1⟩ : ∃ a, nl p r = a := ⟨_, rfl⟩
  obtain ⟨s2, h2⟩ : ∃ a, nl q s = a := ⟨_, rfl⟩
  have hM : coverN p q r s = (decide (s1 = 0) && decide (s2 = 0)) := by unfold coverN; rw [h1, h2]
  have H1 := Lib.hid h1
  have H2 := Lib.hid h2
  clear h1 h2
  by_cases h0 : s1 = 0
  · subst h0
    have HM := Lib.hid hM
    clear hM
    go_enter Try.func56, Try.ntmps56
    go_wp2_with (first | (go_at_call_of 73 p; refine (less_any p r _ hp hr H1.out).mono ?_; rintro e w' ⟨rfl, rfl⟩) | (go_at_call_of 73 q; refine (less_any q s _ hq hs H2.out).mono ?_; rintro e w' ⟨rfl, rfl⟩))
    go_ret
    exact ⟨ret_bool (by rw [HM.out, Bool.eq_iff_iff]; simp), HB0.out⟩
  · have e1 : ((s1 : Int) == 0) = false := by rw [beq_eq_false_iff_ne]; omega
    have HM : Hid (coverN p q r s = false) := Lib.hid (by rw [hM, decide_eq_false h0]; rfl)
    clear hM
    go_enter Try.func56, Try.ntmps56
    go_wp2_with (first | (go_at_call_of 73 p; refine (less_any p r _ hp hr H1.out).mono ?_; rintro e w' ⟨rfl, rfl⟩))
    go_ret
    exact ⟨by rw [HM.out]; first | done | rfl, HB0.out⟩

set_option maxHeartbeats 4000000 in
theorem specCover_v (ds : List D) (b : Int) (x y x2 y2 : Int) (A : Option Addr) (m c : Nat) (w : World) (hr : SD w w.heap.size A m c ds) {v : Bool} (hv : mCover ds b ⟨x, y⟩ ⟨x2, y2⟩ = v) :
    Calls Try.prog 28 #[.agg #[.slice A m c, .int .i64 b], .agg #[.int .i64 x, .int .i64 y], .agg #[.int .i64 x2, .int .i64 y2]] w (fun e w' => e = .returned (.bool v) ∧ Below w.heap.size w w') := by
  subst hv
  have HF := Lib.hid (((FB.start hr b).alloc (.cells #[.int .i64 x, .int .i64 y] 27)).alloc (.cells #[.int .i64 x2, .int .i64 y2] 27))
  have HC : Hid (C2 (((w.alloc (.cells #[.slice A m c, .int .i64 b] 25)).alloc (.cells #[.int .i64 x, .int .i64 y] 27)).alloc (.cells #[.int .i64 x2, .int .i64 y2] 27)) (w.heap.size + 1) (.int .i64 x) (.int .i64 y)) := Lib.hid ((c2New' _ _ _ _ _).below ((Below.refl _ _).alloc (Nat.le_refl _) _))
  have HC2 : Hid (C2 (((w.alloc (.cells #[.slice A m c, .int .i64 b] 25)).alloc (.cells #[.int .i64 x, .int .i64 y] 27)).alloc (.cells #[.int .i64 x2, .int .i64 y2] 27)) (w.heap.size + 2) (.int .i64 x2) (.int .i64 y2)) := Lib.hid (by have := c2New' (w.alloc (.cells #[.slice A m c, .int .i64 b] 25)) (.cells #[.int .i64 x, .int .i64 y] 27) (.int .i64 x2) (.int .i64 y2) 27; simpa using this)
  have hz0 : (((w.alloc (.cells #[.slice A m c, .int .i64 b] 25)).alloc (.cells #[.int .i64 x, .int .i64 y] 27)).alloc (.cells #[.int .i64 x2, .int .i64 y2] 27)).heap.size = w.heap.size + 1 + 1 + 1 := by simp
  clear hr
  cases hm : mArm ds b ⟨x, y⟩
  · have HA := Lib.hid hm
    have HM : Hid (mCover ds b ⟨x, y⟩ ⟨x2, y2⟩ = false) := Lib.hid (by unfold mCover mTwoArms; rw [hm]; rfl)
    clear hm
    go_enter Try.func28, Try.ntmps28
    go_wp2_with fail
    generalize (((w.alloc (.cells #[.slice A m c, .int .i64 b] 25)).alloc (.cells #[.int .i64 x, .int .i64 y] 27)).alloc (.cells #[.int .i64 x2, .int .i64 y2] 27)) = w0 at *
    refine (validArm_v ds b x y _ _ _ _ HF.out.sd HA.out).mono ?_
    rintro e w1 ⟨rfl, hb⟩
    have HB1 := Lib.hid (HF.out.after hb)
    clear hb
    go_wp2
    go_ret
    exact ⟨by rw [HM.out]; first | done | rfl, HB1.out⟩
  have HA := Lib.hid hm
  obtain ⟨p, q, e1, e2, hp, hq, _⟩ := mArm_nat hm
  simp only at e1 e2
  subst e1 e2
  clear hm
  cases hm2 : mArm ds b ⟨x2, y2⟩
  · have HA2 := Lib.hid hm2
    have HM : Hid (mCover ds b ⟨p, q⟩ ⟨x2, y2⟩ = false) := Lib.hid (by unfold mCover mTwoArms; rw [HA.out, hm2]; rfl)
    clear hm2
    go_enter Try.func28, Try.ntmps28
    go_wp2_with fail
    generalize (((w.alloc (.cells #[.slice A m c, .int .i64 b] 25)).alloc (.cells #[.int .i64 (p : Int), .int .i64 (q : Int)] 27)).alloc (.cells #[.int .i64 x2, .int .i64 y2] 27)) = w0 at *
    have c0 := HF.out.c0
    have c1 := HF.out.c1
    have a0 := HC.out.c0
    have a1 := HC.out.c1
    have b0 := HC2.out.c0
    have b1 := HC2.out.c1
    refine (validArm_v ds b p q _ _ _ _ HF.out.sd HA.out).mono ?_
    rintro e w1 ⟨rfl, hb⟩
    have HF1 := Lib.hid (HF.out.call hb)
    have HC1 := Lib.hid (HC.out.below hb)
    have HD1 := Lib.hid (HC2.out.below hb)
    clear hb HF HC HC2 c0 c1 a0 a1 b0 b1
    have c0 := HF1.out.c0
    have c1 := HF1.out.c1
    have a0 := HC1.out.c0
    have a1 := HC1.out.c1
    have b0 := HD1.out.c0
    have b1 := HD1.out.c1
    go_wp2_with fail
    refine (validArm_v ds b x2 y2 _ _ _ _ HF1.out.sd HA2.out).mono ?_
    rintro e w2 ⟨rfl, hb⟩
    have HC3 := Lib.hid (HC1.out.below hb)
    have HD3 := Lib.hid (HD1.out.below hb)
    have HB2 := Lib.hid (HF1.out.after hb)
    clear hb HF1 HC1 HD1 c0 c1 a0 a1 b0 b1
    have a0 := HC3.out.c0
    have a1 := HC3.out.c1
    have b0 := HD3.out.c0
    have b1 := HD3.out.c1
    go_wp2
    go_ret
    exact ⟨by rw [HM.out]; first | done | rfl, HB2.out⟩
  have HA2 := Lib.hid hm2
  obtain ⟨r, s, e3, e4, hr, hs, _⟩ := mArm_nat hm2
  simp only at e3 e4
  subst e3 e4
  clear hm2
  obtain ⟨v, hv⟩ : ∃ v, coverN p q r s = v := ⟨_, rfl⟩
  have HV := Lib.hid hv
  have HM : Hid (mCover ds b ⟨p, q⟩ ⟨r, s⟩ = v) := Lib.hid (by unfold mCover mTwoArms; rw [HA.out, HA2.out]; simpa using hv)
  clear hv
  go_enter Try.func28, Try.ntmps28
  go_wp2_with fail
  generalize (((w.alloc (.cells #[.slice A m c, .int .i64 b] 25)).alloc (.cells #[.int .i64 (p : Int), .int .i64 (q : Int)] 27)).alloc (.cells #[.int .i64 (r : Int), .int .i64 (s : Int)] 27)) = w0 at *
  have c0 := HF.out.c0
  have c1 := HF.out.c1
  have a0 := HC.out.c0
  have a1 := HC.out.c1
  have b0 := HC2.out.c0
  have b1 := HC2.out.c1
  refine (validArm_v ds b p q _ _ _ _ HF.out.sd HA.out).mono ?_
  rintro e w1 ⟨rfl, hb⟩
  have HF1 := Lib.hid (HF.out.call hb)
  have HC1 := Lib.hid (HC.out.below hb)
  have HD1 := Lib.hid (HC2.out.below hb)
  clear hb HF HC HC2 c0 c1 a0 a1 b0 b1
  have c0 := HF1.out.c0
  have c1 := HF1.out.c1
  have a0 := HC1.out.c0
  have a1 := HC1.out.c1
  have b0 := HD1.out.c0
  have b1 := HD1.out.c1
  go_wp2_with fail
  refine (validArm_v ds b r s _ _ _ _ HF1.out.sd HA2.out).mono ?_
  rintro e w2 ⟨rfl, hb⟩
  have HC3 := Lib.hid (HC1.out.below hb)
  have HD3 := Lib.hid (HD1.out.below hb)
  have HB2 := Lib.hid (HF1.out.after hb)
  clear hb HF1 HC1 HD1 c0 c1 a0 a1 b0 b1
  have a0 := HC3.out.c0
  have a1 := HC3.out.c1
  have b0 := HD3.out.c0
  have b1 := HD3.out.c1
  go_wp2_with (go_at_call 56; refine (specCovers_v p q r s _ hp hq hr hs HV.out).mono ?_; rintro e w3 ⟨rfl, hb⟩; have HB3 := Lib.hid (HB2.out.trans (hb.mono HB2.out.size)); clear hb)
  go_ret
  exact ⟨by rw [HM.out]; first | done | rfl, HB3.out⟩

set_option maxHeartbeats 4000000 in
theorem implMeet_v (ds : List D) (b : Int) (x y x2 y2 : Int) (A : Option Addr) (m c : Nat) (w : World) (hr : SD w w.heap.size A m c ds) (hn : m ≤ 1048576) (hx : I64 x) (hy : I64 y) (hx2 : I64 x2) (hy2 : I64 y2) {v : Bool} (hv : mMeet ds b ⟨x, y⟩ ⟨x2, y2⟩ = v) :
    Calls Try.prog 23 #[.agg #[.slice A m c, .int .i64 b], .agg #[.int .i64 x, .int .i64 y], .agg #[.int .i64 x2, .int .i64 y2]] w (fun e w' => e = .returned (.bool v) ∧ Below w.heap.size w w') := by
  subst hv
  have HF := Lib.hid (((FB.start hr b).alloc (.cells #[.int .i64 x, .int .i64 y] 27)).alloc (.cells #[.int .i64 x2, .int .i64 y2] 27))
  have HC : Hid (C2 (((w.alloc (.cells #[.slice A m c, .int .i64 b] 25)).alloc (.cells #[.int .i64 x, .int .i64 y] 27)).alloc (.cells #[.int .i64 x2, .int .i64 y2] 27)) (w.heap.size + 1) (.int .i64 x) (.int .i64 y)) := Lib.hid ((c2New' _ _ _ _ _).below ((Below.refl _ _).alloc (Nat.le_refl _) _))
  have HC2 : Hid (C2 (((w.alloc (.cells #[.slice A m c, .int .i64 b] 25)).alloc (.cells #[.int .i64 x, .int .i64 y] 27)).alloc (.cells #[.int .i64 x2, .int .i64 y2] 27)) (w.heap.size + 2) (.int .i64 x2) (.int .i64 y2)) := Lib.hid (by have := c2New' (w.alloc (.cells #[.slice A m c, .int .i64 b] 25)) (.cells #[.int .i64 x, .int .i64 y] 27) (.int .i64 x2) (.int .i64 y2) 27; simpa using this)
  have hz0 : (((w.alloc (.cells #[.slice A m c, .int .i64 b] 25)).alloc (.cells #[.int .i64 x, .int .i64 y] 27)).alloc (.cells #[.int .i64 x2, .int .i64 y2] 27)).heap.size = w.heap.size + 1 + 1 + 1 := by simp
  clear hr
  cases hm : mArm ds b ⟨x, y⟩
  · have HA := Lib.hid hm
    have HM : Hid (mMeet ds b ⟨x, y⟩ ⟨x2, y2⟩ = false) := Lib.hid (by unfold mMeet mTwoArms; rw [hm]; rfl)
    clear hm
    go_enter Try.func23, Try.ntmps23
    go_wp2_with fail
    generalize (((w.alloc (.cells #[.slice A m c, .int .i64 b] 25)).alloc (.cells #[.int .i64 x, .int .i64 y] 27)).alloc (.cells #[.int .i64 x2, .int .i64 y2] 27)) = w0 at *
    refine (implValidArm_v ds b x y _ _ _ _ HF.out.sd hn hx hy HA.out).mono ?_
    rintro e w1 ⟨rfl, hb⟩
    have HB1 := Lib.hid (HF.out.after hb)
    clear hb
    go_wp2
    go_ret
    exact ⟨by rw [HM.out]; first | done | rfl, HB1.out⟩
  have HA := Lib.hid hm
  obtain ⟨p, q, e1, e2, hp, hq, _⟩ := mArm_nat hm
  simp only at e1 e2
  subst e1 e2
  clear hm
  cases hm2 : mArm ds b ⟨x2, y2⟩
  · have HA2 := Lib.hid hm2
    have HM : Hid (mMeet ds b ⟨p, q⟩ ⟨x2, y2⟩ = false) := Lib.hid (by unfold mMeet mTwoArms; rw [HA.out, hm2]; rfl)
    clear hm2
    go_enter Try.func23, Try.ntmps23
    go_wp2_with fail
    generalize (((w.alloc (.cells #[.slice A m c, .int .i64 b] 25)).alloc (.cells #[.int .i64 (p : Int), .int .i64 (q : Int)] 27)).alloc (.cells #[.int .i64 x2, .int .i64 y2] 27)) = w0 at *
    have c0 := HF.out.c0
    have c1 := HF.out.c1
    have a0 := HC.out.c0
    have a1 := HC.out.c1
    have b0 := HC2.out.c0
    have b1 := HC2.out.c1
    refine (implValidArm_v ds b p q _ _ _ _ HF.out.sd hn hx hy HA.out).mono ?_
    rintro e w1 ⟨rfl, hb⟩
    have HF1 := Lib.hid (HF.out.call hb)
    have HC1 := Lib.hid (HC.out.below hb)
    have HD1 := Lib.hid (HC2.out.below hb)
    clear hb HF HC HC2 c0 c1 a0 a1 b0 b1
    have c0 := HF1.out.c0
    have c1 := HF1.out.c1
    have a0 := HC1.out.c0
    have a1 := HC1.out.c1
    have b0 := HD1.out.c0
    have b1 := HD1.out.c1
    go_wp2_with fail
    refine (implValidArm_v ds b x2 y2 _ _ _ _ HF1.out.sd hn hx2 hy2 HA2.out).mono ?_
    rintro e w2 ⟨rfl, hb⟩
    have HC3 := Lib.hid (HC1.out.below hb)
    have HD3 := Lib.hid (HD1.out.below hb)
    have HB2 := Lib.hid (HF1.out.after hb)
    clear hb HF1 HC1 HD1 c0 c1 a0 a1 b0 b1
    have a0 := HC3.out.c0
    have a1 := HC3.out.c1
    have b0 := HD3.out.c0
    have b1 := HD3.out.c1
    go_wp2
    go_ret
    exact ⟨by rw [HM.out]; first | done | rfl, HB2.out⟩
  have HA2 := Lib.hid hm2
  obtain ⟨r, s, e3, e4, hr, hs, _⟩ := mArm_nat hm2
  simp only at e3 e4
  subst e3 e4
  clear hm2
  obtain ⟨v, hv⟩ : ∃ v, meetN p q r s = v := ⟨_, rfl⟩
  have HV := Lib.hid hv
  have HM : Hid (mMeet ds b ⟨p, q⟩ ⟨r, s⟩ = v) := Lib.hid (by unfold mMeet mTwoArms; rw [HA.out, HA2.out]; simpa using hv)
  clear hv
  go_enter Try.func23, Try.ntmps23
  go_wp2_with fail
  generalize (((w.alloc (.cells #[.slice A m c, .int .i64 b] 25)).alloc (.cells #[.int .i64 (p : Int), .int .i64 (q : Int)] 27)).alloc (.cells #[.int .i64 (r : Int), .int .i64 (s : Int)] 27)) = w0 at *
  have c0 := HF.out.c0
  have c1 := HF.out.c1
  have a0 := HC.out.c0
  have a1 := HC.out.c1
  have b0 := HC2.out.c0
  have b1 := HC2.out.c1
  refine (implValidArm_v ds b p q _ _ _ _ HF.out.sd hn hx hy HA.out).mono ?_
  rintro e w1 ⟨rfl, hb⟩
  have HF1 := Lib.hid (HF.out.call hb)
  have HC1 := Lib.hid (HC.out.below hb)
  have HD1 := Lib.hid (HC2.out.below hb)
  clear hb HF HC HC2 c0 c1 a0 a1 b0 b1
  have c0 := HF1.out.c0
  have c1 := HF1.out.c1
  have a0 := HC1.out.c0
  have a1 := HC1.out.c1
  have b0 := HD1.out.c0
  have b1 := HD1.out.c1
  go_wp2_with fail
  refine (implValidArm_v ds b r s _ _ _ _ HF1.out.sd hn hx2 hy2 HA2.out).mono ?_
  rintro e w2 ⟨rfl, hb⟩
  have HC3 := Lib.hid (HC1.out.below hb)
  have HD3 := Lib.hid (HD1.out.below hb)
  have HB2 := Lib.hid (HF1.out.after hb)
  clear hb HF1 HC1 HD1 c0 c1 a0 a1 b0 b1
  have a0 := HC3.out.c0
  have a1 := HC3.out.c1
  have b0 := HD3.out.c0
  have b1 := HD3.out.c1
  go_wp2_with (go_at_call 53; refine (armMeets_v p q r s _ hp hq hr hs HV.out).mono ?_; rintro e w3 ⟨rfl, hb⟩; have HB3 := Lib.hid (HB2.out.trans (hb.mono HB2.out.size)); clear hb)
  go_ret
  exact ⟨by rw [HM.out]; first | done | rfl, HB3.out⟩

set_option maxHeartbeats 4000000 in
theorem implCover_v (ds : List D) (b : Int) (x y x2 y2 : Int) (A : Option Addr) (m c : Nat) (w : World) (hr : SD w w.heap.size A m c ds) (hn : m ≤ 1048576) (hx : I64 x) (hy : I64 y) (hx2 : I64 x2) (hy2 : I64 y2) {v : Bool} (hv : mCover ds b ⟨x, y⟩ ⟨x2, y2⟩ = v) :
    Calls Try.prog 27 #[.agg #[.slice A m c, .int .i64 b], .agg #[.int .i64 x, .int .i64 y], .agg #[.int .i64 x2, .int .i64 y2]] w (fun e w' => e = .returned (.bool v) ∧ Below w.heap.size w w') := by
  subst hv
  have HF := Lib.hid (((FB.start hr b).alloc (.cells #[.int .i64 x, .int .i64 y] 27)).alloc (.cells #[.int .i64 x2, .int .i64 y2] 27))
  have HC : Hid (C2 (((w.alloc (.cells #[.slice A m c, .int .i64 b] 25)).alloc (.cells #[.int .i64 x, .int .i64 y] 27)).alloc (.cells #[.int .i64 x2, .int .i64 y2] 27)) (w.heap.size + 1) (.int .i64 x) (.int .i64 y)) := Lib.hid ((c2New' _ _ _ _ _).below ((Below.refl _ _).alloc (Nat.le_refl _) _))
  have HC2 : Hid (C2 (((w.alloc (.cells #[.slice A m c, .int .i64 b] 25)).alloc (.cells #[.int .i64 x, .int .i64 y] 27)).alloc (.cells #[.int .i64 x2, .int .i64 y2] 27)) (w.heap.size + 2) (.int .i64 x2) (.int .i64 y2)) := Lib.hid (by have := c2New' (w.alloc (.cells #[.slice A m c, .int .i64 b] 25)) (.cells #[.int .i64 x, .int .i64 y] 27) (.int .i64 x2) (.int .i64 y2) 27; simpa using this)
  have hz0 : (((w.alloc (.cells #[.slice A m c, .int .i64 b] 25)).alloc (.cells #[.int .i64 x, .int .i64 y] 27)).alloc (.cells #[.int .i64 x2, .int .i64 y2] 27)).heap.size = w.heap.size + 1 + 1 + 1 := by simp
  clear hr
  cases hm : mArm ds b ⟨x, y⟩
  · have HA := Lib.hid hm
    have HM : Hid (mCover ds b ⟨x, y⟩ ⟨x2, y2⟩ = false) := Lib.hid (by unfold mCover mTwoArms; rw [hm]; rfl)
    clear hm
    go_enter Try.func27, Try.ntmps27
    go_wp2_with fail
    generalize (((w.alloc (.cells #[.slice A m c, .int .i64 b] 25)).alloc (.cells #[.int .i64 x, .int .i64 y] 27)).alloc (.cells #[.int .i64 x2, .int .i64 y2] 27)) = w0 at *
    refine (implValidArm_v ds b x y _ _ _ _ HF.out.sd hn hx hy HA.out).mono ?_
    rintro e w1 ⟨rfl, hb⟩
    have HB1 := Lib.hid (HF.out.after hb)
    clear hb
    go_wp2
    go_ret
    exact ⟨by rw [HM.out]; first | done | rfl, HB1.out⟩
  have HA := Lib.hid hm
  obtain ⟨p, q, e1, e2, hp, hq, _⟩ := mArm_nat hm
  simp only at e1 e2
  subst e1 e2
  clear hm
  cases hm2 : mArm ds b ⟨x2, y2⟩
  · have HA2 := Lib.hid hm2
    have HM : Hid (mCover ds b ⟨p, q⟩ ⟨x2, y2⟩ = false) := Lib.hid (by unfold mCover mTwoArms; rw [HA.out, hm2]; rfl)
    clear hm2
    go_enter Try.func27, Try.ntmps27
    go_wp2_with fail
    generalize (((w.alloc (.cells #[.slice A m c, .int .i64 b] 25)).alloc (.cells #[.int .i64 (p : Int), .int .i64 (q : Int)] 27)).alloc (.cells #[.int .i64 x2, .int .i64 y2] 27)) = w0 at *
    have c0 := HF.out.c0
    have c1 := HF.out.c1
    have a0 := HC.out.c0
    have a1 := HC.out.c1
    have b0 := HC2.out.c0
    have b1 := HC2.out.c1
    refine (implValidArm_v ds b p q _ _ _ _ HF.out.sd hn hx hy HA.out).mono ?_
    rintro e w1 ⟨rfl, hb⟩
    have HF1 := Lib.hid (HF.out.call hb)
    have HC1 := Lib.hid (HC.out.below hb)
    have HD1 := Lib.hid (HC2.out.below hb)
    clear hb HF HC HC2 c0 c1 a0 a1 b0 b1
    have c0 := HF1.out.c0
    have c1 := HF1.out.c1
    have a0 := HC1.out.c0
    have a1 := HC1.out.c1
    have b0 := HD1.out.c0
    have b1 := HD1.out.c1
    go_wp2_with fail
    refine (implValidArm_v ds b x2 y2 _ _ _ _ HF1.out.sd hn hx2 hy2 HA2.out).mono ?_
    rintro e w2 ⟨rfl, hb⟩
    have HC3 := Lib.hid (HC1.out.below hb)
    have HD3 := Lib.hid (HD1.out.below hb)
    have HB2 := Lib.hid (HF1.out.after hb)
    clear hb HF1 HC1 HD1 c0 c1 a0 a1 b0 b1
    have a0 := HC3.out.c0
    have a1 := HC3.out.c1
    have b0 := HD3.out.c0
    have b1 := HD3.out.c1
    go_wp2
    go_ret
    exact ⟨by rw [HM.out]; first | done | rfl, HB2.out⟩
  have HA2 := Lib.hid hm2
  obtain ⟨r, s, e3, e4, hr, hs, _⟩ := mArm_nat hm2
  simp only at e3 e4
  subst e3 e4
  clear hm2
  obtain ⟨v, hv⟩ : ∃ v, coverN p q r s = v := ⟨_, rfl⟩
  have HV := Lib.hid hv
  have HM : Hid (mCover ds b ⟨p, q⟩ ⟨r, s⟩ = v) := Lib.hid (by unfold mCover mTwoArms; rw [HA.out, HA2.out]; simpa using hv)
  clear hv
  go_enter Try.func27, Try.ntmps27
  go_wp2_with fail
  generalize (((w.alloc (.cells #[.slice A m c, .int .i64 b] 25)).alloc (.cells #[.int .i64 (p : Int), .int .i64 (q : Int)] 27)).alloc (.cells #[.int .i64 (r : Int), .int .i64 (s : Int)] 27)) = w0 at *
  have c0 := HF.out.c0
  have c1 := HF.out.c1
  have a0 := HC.out.c0
  have a1 := HC.out.c1
  have b0 := HC2.out.c0
  have b1 := HC2.out.c1
  refine (implValidArm_v ds b p q _ _ _ _ HF.out.sd hn hx hy HA.out).mono ?_
  rintro e w1 ⟨rfl, hb⟩
  have HF1 := Lib.hid (HF.out.call hb)
  have HC1 := Lib.hid (HC.out.below hb)
  have HD1 := Lib.hid (HC2.out.below hb)
  clear hb HF HC HC2 c0 c1 a0 a1 b0 b1
  have c0 := HF1.out.c0
  have c1 := HF1.out.c1
  have a0 := HC1.out.c0
  have a1 := HC1.out.c1
  have b0 := HD1.out.c0
  have b1 := HD1.out.c1
  go_wp2_with fail
  refine (implValidArm_v ds b r s _ _ _ _ HF1.out.sd hn hx2 hy2 HA2.out).mono ?_
  rintro e w2 ⟨rfl, hb⟩
  have HC3 := Lib.hid (HC1.out.below hb)
  have HD3 := Lib.hid (HD1.out.below hb)
  have HB2 := Lib.hid (HF1.out.after hb)
  clear hb HF1 HC1 HD1 c0 c1 a0 a1 b0 b1
  have a0 := HC3.out.c0
  have a1 := HC3.out.c1
  have b0 := HD3.out.c0
  have b1 := HD3.out.c1
  go_wp2_with (go_at_call 55; refine (armCovers_v p q r s _ hp hq hr hs HV.out).mono ?_; rintro e w3 ⟨rfl, hb⟩; have HB3 := Lib.hid (HB2.out.trans (hb.mono HB2.out.size)); clear hb)
  go_ret
  exact ⟨by rw [HM.out]; first | done | rfl, HB3.out⟩

set_option maxHeartbeats 4000000 in
theorem specCountA_v (ds : List D) (b : Int) (x y : Int) (A : Option Addr) (m c : Nat) (w : World) (hr : SD w w.heap.size A m c ds) {r : Int} (hv : mCountA ds b ⟨x, y⟩ = r) :
    Calls Try.prog 34 #[.agg #[.slice A m c, .int .i64 b], .agg #[.int .i64 x, .int .i64 y]] w (fun e w' => e = .returned (.int .i64 r) ∧ Below w.heap.size w w') := by
  subst hv
  have HF := Lib.hid ((FB.start hr b).alloc (.cells #[.int .i64 x, .int .i64 y] 27))
  have HC : Hid (C2 ((w.alloc (.cells #[.slice A m c, .int .i64 b] 25)).alloc (.cells #[.int .i64 x, .int .i64 y] 27)) (w.heap.size + 1) (.int .i64 x) (.int .i64 y)) := Lib.hid (c2New' _ _ _ _ _)
  have hz0 : ((w.alloc (.cells #[.slice A m c, .int .i64 b] 25)).alloc (.cells #[.int .i64 x, .int .i64 y] 27)).heap.size = w.heap.size + 1 + 1 := by simp
  clear hr
  cases hm : mArm ds b ⟨x, y⟩
  · have HA := Lib.hid hm
    have HM : Hid (mCountA ds b ⟨x, y⟩ = -1) := Lib.hid (if_no hm)
    clear hm
    go_enter Try.func34, Try.ntmps34
    go_wp2_with fail
    generalize ((w.alloc (.cells #[.slice A m c, .int .i64 b] 25)).alloc (.cells #[.int .i64 x, .int .i64 y] 27)) = w0 at *
    refine (validArm_v ds b x y _ _ _ _ HF.out.sd HA.out).mono ?_
    rintro e w1 ⟨rfl, hb⟩
    have HB1 := Lib.hid (HF.out.after hb)
    clear hb
    go_wp2
    go_ret
    exact ⟨by rw [HM.out]; first | done | rfl, HB1.out⟩
  have HA := Lib.hid hm
  have HIN := Lib.hid (vFlag_in (mArm_flag hm))
  have hMk := mMask_lt12 HIN.out
  obtain ⟨p, q, e1, e2, hp, hq, hpm, hqm, hpq⟩ := mArm_nat hm
  simp only at e1 e2
  subst e1 e2
  have hM : mCountA ds b ⟨p, q⟩ = ((2 ^ popc (nl (mMask ds) (p ||| q)) : Nat) : Int) := by unfold mCountA; rw [hm, if_pos rfl]; simp
  have hfree := popc_free hpm hqm hpq
  have hpl : ∀ x : Nat, x < 4096 → popc x < 4096 := fun x h => Nat.lt_of_le_of_lt (popc_le x) h
  obtain ⟨k, hk⟩ : ∃ k, mMask ds = k := ⟨_, rfl⟩
  rw [hk] at hM hfree hMk
  obtain ⟨ck, hck⟩ : ∃ a, popc k = a := ⟨_, rfl⟩
  obtain ⟨cp, hcp⟩ : ∃ a, popc p = a := ⟨_, rfl⟩
  obtain ⟨cq, hcq⟩ : ∃ a, popc q = a := ⟨_, rfl⟩
  obtain ⟨f, hf⟩ : ∃ a, popc (nl k (p ||| q)) = a := ⟨_, rfl⟩
  have h12 : f ≤ 12 := by rw [← hf]; exact popc_12 (nl_lt hMk)
  rw [hf] at hM
  rw [hf, hcp, hcq, hck] at hfree
  have hck4 : ck < 4096 := by rw [← hck]; exact hpl k hMk
  have HM := Lib.hid hM
  have HMM := Lib.hid hk
  have HCK := Lib.hid hck
  have HCP := Lib.hid hcp
  have HCQ := Lib.hid hcq
  have hk6 : k ≤ 1000000 := by omega
  have hp6 : p ≤ 1000000 := by omega
  have hq6 : q ≤ 1000000 := by omega
  clear hm hM hck hcp hcq hf hk hpl hpm hqm hpq
  go_enter Try.func34, Try.ntmps34
  go_wp2_with fail
  generalize ((w.alloc (.cells #[.slice A m c, .int .i64 b] 25)).alloc (.cells #[.int .i64 (p : Int), .int .i64 (q : Int)] 27)) = w0 at *
  refine (validArm_v ds b p q _ _ _ _ HF.out.sd HA.out).mono ?_
  rintro e w1 ⟨rfl, hb⟩
  have HF1 := Lib.hid (HF.out.call hb)
  have HC1 := Lib.hid (HC.out.below hb)
  clear hb HF HC
  have c0 := HF1.out.c0
  have c1 := HF1.out.c1
  have x0 := HC1.out.c0
  have x1 := HC1.out.c1
  have HT : Hid (∀ n, SD (w1.drewN n) (w1.drewN n).heap.size A m c ds) := Lib.hid fun n => (HF1.out.drewN n).sd
  go_wp2
  go_quiet (first | (go_at_call 65; exact quiet_eq (mask_any ds _ _ _ _ (HT.out _) HIN.out HMM.out)) | (go_at_call_of 64 k; exact quiet_eq (bitCount_any k _ hk6 HCK.out)) | (go_at_call_of 64 p; exact quiet_eq (bitCount_any p _ hp6 HCP.out)) | (go_at_call_of 64 q; exact quiet_eq (bitCount_any q _ hq6 HCQ.out)))
  have HB2 := Lib.hid (HF1.out.drewN nq).bel
  generalize w1.drewN nq = wq at *
  have hff : (ck : Int) - (cp : Int) - (cq : Int) = ((f - 0 : Nat) : Int) := by omega
  have hwr : IntKind.i64.wrap ((ck : Int) - (cp : Int)) = (ck : Int) - (cp : Int) := by rw [IntKind.wrap_i64]; omega
  go_wp2
  go_loop [5, 6] (fun s i => ∃ (j z : Nat), j ≤ f ∧ z ≤ 4096 ∧ s = .int .i64 z ∧ i = .int .i64 ((f - j : Nat) : Int) ∧ Hid (z = 2 ^ j)) (fun _ i => (intOf i).toNat)
  case atStart => exact ⟨0, 1, Nat.zero_le _, by omega, rfl, by first | rfl | (rw [← hff]) | (congr 1; omega), Lib.hid rfl⟩
  case round =>
    obtain ⟨j, z, hj, hz, rfl, rfl, hz2⟩ := hrel
    by_cases hjc : j < f
    · have HQ2 : Hid (2 * z = 2 ^ (j + 1)) := Lib.hid (by rw [Nat.pow_succ, hz2.out, Nat.mul_comm])
      have hq64 : 2 * z ≤ 4096 := by rw [HQ2.out]; exact Nat.pow_le_pow_right (n := 2) (by decide) (show j + 1 ≤ 12 by omega)
      have hpos : (0 : Int) < ((f - j : Nat) : Int) := by omega
      go_wp2
      go_round
      case rel => exact ⟨j + 1, 2 * z, by omega, hq64, by go_num, by go_num, HQ2⟩
      case measure => simp [intOf]; omega
    · obtain rfl : j = f := by omega
      have hz0 : ((j - j : Nat) : Int) = 0 := by omega
      rw [hz0]
      go_wp2
      go_ret
      exact ⟨by rw [HM.out, ← hz2.out]; first | done | rfl, HB2.out⟩

set_option maxHeartbeats 4000000 in
theorem implCountA_v (ds : List D) (b : Int) (x y : Int) (A : Option Addr) (m c : Nat) (w : World) (hr : SD w w.heap.size A m c ds) (hn : m ≤ 1048576) (hx : I64 x) (hy : I64 y) {r : Int} (hv : mCountA ds b ⟨x, y⟩ = r) :
    Calls Try.prog 29 #[.agg #[.slice A m c, .int .i64 b], .agg #[.int .i64 x, .int .i64 y]] w (fun e w' => e = .returned (.int .i64 r) ∧ Below w.heap.size w w') := by
  subst hv
  have HF := Lib.hid ((FB.start hr b).alloc (.cells #[.int .i64 x, .int .i64 y] 27))
  have HC : Hid (C2 ((w.alloc (.cells #[.slice A m c, .int .i64 b] 25)).alloc (.cells #[.int .i64 x, .int .i64 y] 27)) (w.heap.size + 1) (.int .i64 x) (.int .i64 y)) := Lib.hid (c2New' _ _ _ _ _)
  have hz0 : ((w.alloc (.cells #[.slice A m c, .int .i64 b] 25)).alloc (.cells #[.int .i64 x, .int .i64 y] 27)).heap.size = w.heap.size + 1 + 1 := by simp
  clear hr
  cases hm : mArm ds b ⟨x, y⟩
  · have HM2 : Hid (mArms ds b [⟨x, y⟩] = false) := Lib.hid (by rw [mArms_one]; exact hm)
    have HM : Hid (mCountA ds b ⟨x, y⟩ = -1) := Lib.hid (if_no hm)
    have HR2 : Hid ((if mArms ds b [⟨x, y⟩] then ((mMask ds : Nat) : Int) else 0) = 0) := Lib.hid (if_no HM2.out)
    clear hm
    go_enter Try.func29, Try.ntmps29
    go_wp2_with fail
    generalize ((w.alloc (.cells #[.slice A m c, .int .i64 b] 25)).alloc (.cells #[.int .i64 x, .int .i64 y] 27)) = w0 at *
    have hb0 : Below w0.heap.size w0 (w0.alloc (.cells #[.int .i64 x, .int .i64 y] 27)) := (Below.refl _ _).alloc (Nat.le_refl _) _
    have HF1 := Lib.hid (HF.out.call hb0)
    have HC1 := Lib.hid (HC.out.below hb0)
    have HS1 : Hid (SA (w0.alloc (.cells #[.int .i64 x, .int .i64 y] 27)) (w0.alloc (.cells #[.int .i64 x, .int .i64 y] 27)).heap.size (some ⟨w.heap.size + 1 + 1, 0, none⟩) 1 1 [⟨x, y⟩]) := Lib.hid (by rw [← hz0]; exact (sa_one w0 x y _ hx hy).more (by simp))
    clear hb0 HF HC
    generalize hW : (w0.alloc (.cells #[.int .i64 x, .int .i64 y] 27)) = w1 at *
    clear hW
    refine (armsMask_v ds b [⟨x, y⟩] _ _ _ _ HF1.out.sd _ _ _ HS1.out hn HM2.out HR2.out).mono ?_
    rintro e w2 ⟨rfl, hb⟩
    have HB2 := Lib.hid (HF1.out.after hb)
    clear hb
    go_wp2
    go_ret
    exact ⟨by rw [HM.out]; first | done | rfl, HB2.out⟩
  have hMk := mMask_lt12 (vFlag_in (mArm_flag hm))
  obtain ⟨k, hk⟩ : ∃ k, mMask ds = k := ⟨_, rfl⟩
  have HM2 : Hid (mArms ds b [⟨x, y⟩] = true) := Lib.hid (by rw [mArms_one]; exact hm)
  have HR2 : Hid ((if mArms ds b [⟨x, y⟩] then ((mMask ds : Nat) : Int) else 0) = (k : Int)) := Lib.hid (by rw [HM2.out, if_pos rfl, hk])
  obtain ⟨p, q, e1, e2, hp, hq, hpm, hqm, hpq⟩ := mArm_nat hm
  simp only at e1 e2
  subst e1 e2
  have hM : mCountA ds b ⟨p, q⟩ = ((2 ^ popc (nl (mMask ds) (p ||| q)) : Nat) : Int) := by unfold mCountA; rw [hm, if_pos rfl]; simp
  rw [hk] at hM hMk
  have hor := i64_or_nat p q (by omega) (by omega)
  have hpq4 := or_lt hp hq
  generalize p ||| q = o at *
  have hless := i64_andNot_nat k o (by omega) (by omega)
  have hl4 : nl k o < 4096 := nl_lt hMk
  generalize nl k o = l at *
  have hu : IntKind.u64.wrap (l : Int) = (l : Int) := by rw [IntKind.wrap_u64]; omega
  obtain ⟨f, hf⟩ : ∃ a, popc l = a := ⟨_, rfl⟩
  have h12 : f ≤ 12 := by rw [← hf]; exact popc_12 hl4
  rw [hf] at hM
  have HM := Lib.hid hM
  have HR := Lib.hid hf
  clear hm hM hf hk hpm hqm hpq
  go_enter Try.func29, Try.ntmps29
  go_wp2_with fail
  generalize ((w.alloc (.cells #[.slice A m c, .int .i64 b] 25)).alloc (.cells #[.int .i64 (p : Int), .int .i64 (q : Int)] 27)) = w0 at *
  have hb0 : Below w0.heap.size w0 (w0.alloc (.cells #[.int .i64 (p : Int), .int .i64 (q : Int)] 27)) := (Below.refl _ _).alloc (Nat.le_refl _) _
  have HF1 := Lib.hid (HF.out.call hb0)
  have HC1 := Lib.hid (HC.out.below hb0)
  have HS1 : Hid (SA (w0.alloc (.cells #[.int .i64 (p : Int), .int .i64 (q : Int)] 27)) (w0.alloc (.cells #[.int .i64 (p : Int), .int .i64 (q : Int)] 27)).heap.size (some ⟨w.heap.size + 1 + 1, 0, none⟩) 1 1 [⟨p, q⟩]) := Lib.hid (by rw [← hz0]; exact (sa_one w0 p q _ hx hy).more (by simp))
  clear hb0 HF HC
  generalize hW : (w0.alloc (.cells #[.int .i64 (p : Int), .int .i64 (q : Int)] 27)) = w1 at *
  clear hW
  refine (armsMask_v ds b [⟨p, q⟩] _ _ _ _ HF1.out.sd _ _ _ HS1.out hn HM2.out HR2.out).mono ?_
  rintro e w2 ⟨rfl, hb⟩
  have HC3 := Lib.hid (HC1.out.below hb)
  have HB2 := Lib.hid (HF1.out.after hb)
  have x0 := HC3.out.c0
  have x1 := HC3.out.c1
  clear hb HC1 HF1 HS1
  go_wp2_with (go_at_call 57; refine (ones_v l _ hl4 HR.out).mono ?_; rintro e w' ⟨rfl, rfl⟩)
  go_ret
  exact ⟨ret_int (by
    have e : (2 : Int) ^ f = ((2 ^ f : Nat) : Int) := by push_cast; rfl
    have hle : 2 ^ f ≤ 4096 := Nat.pow_le_pow_right (n := 2) (by decide) h12
    rw [HM.out, e]
    clear HM e
    generalize 2 ^ f = P at *
    unfold wrap64; omega), HB2.out⟩

end Go.Proofs.Ytcaobalijnajgaa
