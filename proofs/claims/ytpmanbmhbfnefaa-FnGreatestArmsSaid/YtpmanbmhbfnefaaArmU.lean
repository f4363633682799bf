import Derived.Test.YtpmanbmhbfnefaaArmS
import Derived.Test.YtpmanbmhbfnefaaBaseR
namespace Go.Proofs.Ytpmanbmhbfnefaa
open Go.RowKit Go.Maps
set_option linter.unusedVariables false
set_option maxRecDepth 100000

set_option maxHeartbeats 1000000 in
theorem specCovers_v (p q r s : Nat) (w : World) (hp : p < 4096) (hq : q < 4096) (hr : r < 4096) (hs : s < 4096) {v : Bool} (hv : coverN p q r s = v) :
    Calls Try.prog 70 #[.agg #[.int .i64 p, .int .i64 q], .agg #[.int .i64 r, .int .i64 s]] w fun e w' => e = .returned (.bool v) ∧ Below w.heap.size w w' := by
  subst hv
  have HB0 : Hid (Below w.heap.size w ((w.alloc (.cells #[.int .i64 p, .int .i64 q] 72)).alloc (.cells #[.int .i64 r, .int .i64 s] 72))) := Lib.hid (((Below.refl _ _).alloc (Nat.le_refl _) _).alloc (by simp) _)
  obtain ⟨s1, h1⟩ : ∃ a, nl p r = a := ⟨_, rfl⟩
  obtain ⟨s2, h2⟩ : ∃ a, nl q s = a := ⟨_, rfl⟩
  have hM : coverN p q r s = (decide (s1 = 0) && decide (s2 = 0)) := by unfold coverN; rw [h1, h2]
  have H1 := Lib.hid h1
  have H2 := Lib.hid h2
  clear h1 h2
  by_cases h0 : s1 = 0
  · subst h0
    have HM := Lib.hid hM
    clear hM
    go_enter Try.func70, Try.ntmps70
    go_wp2_with (first | (go_at_call_of 68 p; refine (less_any p r _ hp hr H1.out).mono ?_; rintro e w' ⟨rfl, rfl⟩) | (go_at_call_of 68 q; refine (less_any q s _ hq hs H2.out).mono ?_; rintro e w' ⟨rfl, rfl⟩))
    go_ret
    exact ⟨ret_bool (by rw [HM.out, Bool.eq_iff_iff]; simp), HB0.out⟩
  · have e1 : ((s1 : Int) == 0) = false := by rw [beq_eq_false_iff_ne]; omega
    have HM : Hid (coverN p q r s = false) := Lib.hid (by rw [hM, decide_eq_false h0]; rfl)
    clear hM
    go_enter Try.func70, Try.ntmps70
    go_wp2_with (first | (go_at_call_of 68 p; refine (less_any p r _ hp hr H1.out).mono ?_; rintro e w' ⟨rfl, rfl⟩))
    go_ret
    exact ⟨by rw [HM.out]; first | done | rfl, HB0.out⟩

set_option maxHeartbeats 4000000 in
theorem implCover_v (ds : List D) (b : Int) (x y x2 y2 : Int) (A : Option Addr) (m c : Nat) (w : World) (hr : SD w w.heap.size A m c ds) (hn : m ≤ 1048576) (hx : I64 x) (hy : I64 y) (hx2 : I64 x2) (hy2 : I64 y2) {v : Bool} (hv : mCover ds b ⟨x, y⟩ ⟨x2, y2⟩ = v) :
    Calls Try.prog 40 #[.agg #[.slice A m c, .int .i64 b], .agg #[.int .i64 x, .int .i64 y], .agg #[.int .i64 x2, .int .i64 y2]] w (fun e w' => e = .returned (.bool v) ∧ Below w.heap.size w w') := by
  subst hv
  have HF := Lib.hid (((FB.start hr b).alloc (.cells #[.int .i64 x, .int .i64 y] 72)).alloc (.cells #[.int .i64 x2, .int .i64 y2] 72))
  have HC : Hid (C2 (((w.alloc (.cells #[.slice A m c, .int .i64 b] 58)).alloc (.cells #[.int .i64 x, .int .i64 y] 72)).alloc (.cells #[.int .i64 x2, .int .i64 y2] 72)) (w.heap.size + 1) (.int .i64 x) (.int .i64 y)) := Lib.hid ((c2New' _ _ _ _ _).below ((Below.refl _ _).alloc (Nat.le_refl _) _))
  have HC2 : Hid (C2 (((w.alloc (.cells #[.slice A m c, .int .i64 b] 58)).alloc (.cells #[.int .i64 x, .int .i64 y] 72)).alloc (.cells #[.int .i64 x2, .int .i64 y2] 72)) (w.heap.size + 2) (.int .i64 x2) (.int .i64 y2)) := Lib.hid (by have := c2New' (w.alloc (.cells #[.slice A m c, .int .i64 b] 58)) (.cells #[.int .i64 x, .int .i64 y] 72) (.int .i64 x2) (.int .i64 y2) 72; simpa using this)
  have hz0 : (((w.alloc (.cells #[.slice A m c, .int .i64 b] 58)).alloc (.cells #[.int .i64 x, .int .i64 y] 72)).alloc (.cells #[.int .i64 x2, .int .i64 y2] 72)).heap.size = w.heap.size + 1 + 1 + 1 := by simp
  clear hr
  cases hm : mArm ds b ⟨x, y⟩
  · have HA := Lib.hid hm
    have HM : Hid (mCover ds b ⟨x, y⟩ ⟨x2, y2⟩ = false) := Lib.hid (by unfold mCover mTwoArms; rw [hm]; rfl)
    clear hm
    go_enter Try.func40, Try.ntmps40
    go_wp2_with fail
    generalize (((w.alloc (.cells #[.slice A m c, .int .i64 b] 58)).alloc (.cells #[.int .i64 x, .int .i64 y] 72)).alloc (.cells #[.int .i64 x2, .int .i64 y2] 72)) = w0 at *
    refine (implValidArm_v ds b x y _ _ _ _ HF.out.sd hn hx hy HA.out).mono ?_
    rintro e w1 ⟨rfl, hb⟩
    have HB1 := Lib.hid (HF.out.after hb)
    clear hb
    go_wp2
    go_ret
    exact ⟨by rw [HM.out]; first | done | rfl, HB1.out⟩
  have HA := Lib.hid hm
  obtain ⟨p, q, e1, e2, hp, hq, _⟩ := mArm_nat hm
  simp only at e1 e2
  subst e1 e2
  clear hm
  cases hm2 : mArm ds b ⟨x2, y2⟩
  · have HA2 := Lib.hid hm2
    have HM : Hid (mCover ds b ⟨p, q⟩ ⟨x2, y2⟩ = false) := Lib.hid (by unfold mCover mTwoArms; rw [HA.out, hm2]; rfl)
    clear hm2
    go_enter Try.func40, Try.ntmps40
    go_wp2_with fail
    generalize (((w.alloc (.cells #[.slice A m c, .int .i64 b] 58)).alloc (.cells #[.int .i64 (p : Int), .int .i64 (q : Int)] 72)).alloc (.cells #[.int .i64 x2, .int .i64 y2] 72)) = w0 at *
    have c0 := HF.out.c0
    have c1 := HF.out.c1
    have a0 := HC.out.c0
    have a1 := HC.out.c1
    have b0 := HC2.out.c0
    have b1 := HC2.out.c1
    refine (implValidArm_v ds b p q _ _ _ _ HF.out.sd hn hx hy HA.out).mono ?_
    rintro e w1 ⟨rfl, hb⟩
    have HF1 := Lib.hid (HF.out.call hb)
    have HC1 := Lib.hid (HC.out.below hb)
    have HD1 := Lib.hid (HC2.out.below hb)
    clear hb HF HC HC2 c0 c1 a0 a1 b0 b1
    have c0 := HF1.out.c0
    have c1 := HF1.out.c1
    have a0 := HC1.out.c0
    have a1 := HC1.out.c1
    have b0 := HD1.out.c0
    have b1 := HD1.out.c1
    go_wp2_with fail
    refine (implValidArm_v ds b x2 y2 _ _ _ _ HF1.out.sd hn hx2 hy2 HA2.out).mono ?_
    rintro e w2 ⟨rfl, hb⟩
    have HC3 := Lib.hid (HC1.out.below hb)
    have HD3 := Lib.hid (HD1.out.below hb)
    have HB2 := Lib.hid (HF1.out.after hb)
    clear hb HF1 HC1 HD1 c0 c1 a0 a1 b0 b1
    have a0 := HC3.out.c0
    have a1 := HC3.out.c1
    have b0 := HD3.out.c0
    have b1 := HD3.out.c1
    go_wp2
    go_ret
    exact ⟨by rw [HM.out]; first | done | rfl, HB2.out⟩
  have HA2 := Lib.hid hm2
  obtain ⟨r, s, e3, e4, hr, hs, _⟩ := mArm_nat hm2
  simp only at e3 e4
  subst e3 e4
  clear hm2
  obtain ⟨v, hv⟩ : ∃ v, coverN p q r s = v := ⟨_, rfl⟩
  have HV := Lib.hid hv
  have HM : Hid (mCover ds b ⟨p, q⟩ ⟨r, s⟩ = v) := Lib.hid (by unfold mCover mTwoArms; rw [HA.out, HA2.out]; simpa using hv)
  clear hv
  go_enter Try.func40, Try.ntmps40
  go_wp2_with fail
  generalize (((w.alloc (.cells #[.slice A m c, .int .i64 b] 58)).alloc (.cells #[.int .i64 (p : Int), .int .i64 (q : Int)] 72)).alloc (.cells #[.int .i64 (r : Int), .int .i64 (s : Int)] 72)) = w0 at *
  have c0 := HF.out.c0
  have c1 := HF.out.c1
  have a0 := HC.out.c0
  have a1 := HC.out.c1
  have b0 := HC2.out.c0
  have b1 := HC2.out.c1
  refine (implValidArm_v ds b p q _ _ _ _ HF.out.sd hn hx hy HA.out).mono ?_
  rintro e w1 ⟨rfl, hb⟩
  have HF1 := Lib.hid (HF.out.call hb)
  have HC1 := Lib.hid (HC.out.below hb)
  have HD1 := Lib.hid (HC2.out.below hb)
  clear hb HF HC HC2 c0 c1 a0 a1 b0 b1
  have c0 := HF1.out.c0
  have c1 := HF1.out.c1
  have a0 := HC1.out.c0
  have a1 := HC1.out.c1
  have b0 := HD1.out.c0
  have b1 := HD1.out.c1
  go_wp2_with fail
  refine (implValidArm_v ds b r s _ _ _ _ HF1.out.sd hn hx2 hy2 HA2.out).mono ?_
  rintro e w2 ⟨rfl, hb⟩
  have HC3 := Lib.hid (HC1.out.below hb)
  have HD3 := Lib.hid (HD1.out.below hb)
  have HB2 := Lib.hid (HF1.out.after hb)
  clear hb HF1 HC1 HD1 c0 c1 a0 a1 b0 b1
  have a0 := HC3.out.c0
  have a1 := HC3.out.c1
  have b0 := HD3.out.c0
  have b1 := HD3.out.c1
  go_wp2_with (go_at_call 77; refine (armCovers_v p q r s _ hp hq hr hs HV.out).mono ?_; rintro e w3 ⟨rfl, hb⟩; have HB3 := Lib.hid (HB2.out.trans (hb.mono HB2.out.size)); clear hb)
  go_ret
  exact ⟨by rw [HM.out]; first | done | rfl, HB3.out⟩

end Go.Proofs.Ytpmanbmhbfnefaa
