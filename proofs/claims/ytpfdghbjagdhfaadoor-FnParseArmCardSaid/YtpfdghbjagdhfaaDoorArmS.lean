import Derived.Test.YtpfdghbjagdhfaaDoorArmP
import Derived.Test.YtpfdghbjagdhfaaDoorBaseD
import Derived.Test.YtpfdghbjagdhfaaDoorCel
import Derived.BigQuiet
namespace Go.Proofs.YtpfdghbjagdhfaaDoor
open Go.RowKit Go.Maps
set_option linter.unusedVariables false
set_option maxRecDepth 100000

/-! ### the model's functions on bits, at any numbers -/
set_option maxHeartbeats 1000000 in
theorem both_w (a b : Int) (w : World) : Calls Tryd.prog 129 #[.int .i64 a, .int .i64 b] w fun e w' => (∃ r : Int, e = .returned (.int .i64 r) ∧ 0 ≤ r ∧ r ≤ 4096) ∧ w = w' := by
  go_enter Tryd.func129, Tryd.ntmps129
  go_wp2
  go_loop [5, 6] (fun s i => ∃ (k p q : Nat), k ≤ 12 ∧ 1 ≤ p ∧ p ≤ 4096 ∧ q < p ∧ i = .int .i64 p ∧ s = .int .i64 q ∧ Hid (p = 2 ^ k)) (fun _ i => 4096 - (intOf i).toNat)
  case atStart => exact ⟨0, 1, 0, by omega, by omega, by omega, by omega, rfl, rfl, Lib.hid rfl⟩
  case round =>
    obtain ⟨k, p, q, hk, hp1, hp2, hq1, rfl, rfl, hp⟩ := hrel
    by_cases h12 : k < 12
    · have hp3 : p ≤ 2048 := by rw [hp.out]; exact Nat.pow_le_pow_right (n := 2) (by decide) (show k ≤ 11 by omega)
      have HP2 : Hid (p * 2 = 2 ^ (k + 1)) := Lib.hid (by rw [hp.out, Nat.pow_succ])
      have hpz : ((p : Int) == 0) = false := by rw [beq_eq_false_iff_ne]; omega
      go_wp2
      all_goals
        go_round
        case rel => first | exact ⟨k + 1, p * 2, q + p, by omega, by omega, by omega, by omega, by go_num, by go_num, HP2⟩ | exact ⟨k + 1, p * 2, q, by omega, by omega, by omega, by omega, by go_num, rfl, HP2⟩
        case measure => simp [intOf]; omega
    · obtain rfl : k = 12 := by omega
      have hp4 : p = 4096 := hp.out
      have hp5 : (4095 : Int) < (p : Int) := by omega
      go_wp2
      go_ret
      exact ⟨⟨_, rfl, by omega, by omega⟩, rfl⟩

set_option maxHeartbeats 1000000 in
theorem either_w (a b : Int) (w : World) : Calls Tryd.prog 92 #[.int .i64 a, .int .i64 b] w fun e w' => (∃ r : Int, e = .returned (.int .i64 r)) ∧ w = w' := by
  go_enter Tryd.func92, Tryd.ntmps92
  go_wp2_with (go_at_call 129; refine (both_w a b _).mono ?_; rintro e w' ⟨⟨r, rfl, hr0, hr1⟩, rfl⟩)
  go_ret
  exact ⟨⟨_, rfl⟩, rfl⟩

set_option maxHeartbeats 1000000 in
theorem mask_w (ds : List D) (A : Option Addr) (n c : Nat) (w : World) (hr : SD w w.heap.size A n c ds) :
    Calls Tryd.prog 127 #[.slice A n c] w fun e w' => (∃ r : Int, e = .returned (.int .i64 r)) ∧ w = w' := by
  obtain rfl := hr.len
  have hl := hr.max
  have hl2 := hr.cap
  unfold maxLen at hl
  have HR := Lib.hid hr
  clear hr
  go_enter Tryd.func127, Tryd.ntmps127
  go_wp2
  go_loop [3, 4] (fun s i => ∃ (k : Nat) (q : Int), k ≤ ds.length ∧ i = .int .i64 k ∧ s = .int .i64 q) (fun _ i => ds.length - (intOf i).toNat)
  case atStart => exact ⟨0, 0, Nat.zero_le _, rfl, rfl⟩
  case round =>
    obtain ⟨k, q, hk, rfl, rfl⟩ := hrel
    by_cases hlt : k < ds.length
    · obtain ⟨b, o, rfl, hbb, c1, c2⟩ := HR.out.at_ hlt
      have hi1 : (k : Int) < (ds.length : Int) := by omega
      go_wp2_with (go_at_call 92; refine (either_w q _ _).mono ?_; rintro e w' ⟨⟨z, rfl⟩, rfl⟩)
      go_round
      case rel => exact ⟨k + 1, z, by omega, by go_num, rfl⟩
      case measure => simp [intOf]; omega
    · obtain rfl : k = ds.length := by omega
      go_wp2
      go_ret
      exact ⟨⟨_, rfl⟩, rfl⟩

set_option maxHeartbeats 4000000 in
theorem validArm_v (ds : List D) (b : Int) (x y : Int) (A : Option Addr) (m c : Nat) (w : World) (hr : SD w w.heap.size A m c ds) {v : Bool} (hm : mArm ds b ⟨x, y⟩ = v) :
    Calls Tryd.prog 76 #[.agg #[.slice A m c, .int .i64 b], .agg #[.int .i64 x, .int .i64 y]] w (fun e w' => e = .returned (.bool v) ∧ Below w.heap.size w w') := by
  subst hm
  have HF := Lib.hid ((FB.start hr b).alloc (.cells #[.int .i64 x, .int .i64 y] 27))
  have HC : Hid (C2 ((w.alloc (.cells #[.slice A m c, .int .i64 b] 32)).alloc (.cells #[.int .i64 x, .int .i64 y] 27)) (w.heap.size + 1) (.int .i64 x) (.int .i64 y)) := Lib.hid (c2New' _ _ _ _ _)
  have hz0 : ((w.alloc (.cells #[.slice A m c, .int .i64 b] 32)).alloc (.cells #[.int .i64 x, .int .i64 y] 27)).heap.size = w.heap.size + 1 + 1 := by simp
  clear hr
  cases hv : vFlag ds b
  · have HV := Lib.hid hv
    have HM : Hid (mArm ds b ⟨x, y⟩ = false) := Lib.hid (by unfold mArm; rw [hv]; rfl)
    clear hv
    go_enter Tryd.func76, Tryd.ntmps76
    go_wp2_with fail
    generalize ((w.alloc (.cells #[.slice A m c, .int .i64 b] 32)).alloc (.cells #[.int .i64 x, .int .i64 y] 27)) = w0 at *
    have c0 := HF.out.c0
    have c1 := HF.out.c1
    refine (mask_w ds _ _ _ _ HF.out.sd).mono ?_
    rintro e w' ⟨⟨r, rfl⟩, rfl⟩
    go_wp2_with (go_at_call 47; refine (specVF_v ds b _ _ _ _ HF.out.sd HV.out).mono ?_; rintro e w1 ⟨rfl, hb⟩)
    go_ret
    exact ⟨by rw [HM.out]; first | done | rfl, HF.out.after hb⟩
  have HV := Lib.hid hv
  have HIN := Lib.hid (vFlag_in hv)
  have hM : mArm ds b ⟨x, y⟩ = fitsA (mMask ds) ⟨x, y⟩ := by unfold mArm; rw [hv]; rfl
  obtain ⟨k, hk⟩ : ∃ k, mMask ds = k := ⟨_, rfl⟩
  have hk4 : k < 4096 := by rw [← hk]; exact mMask_lt12 HIN.out
  have HMM := Lib.hid hk
  rw [hk] at hM
  clear hv hk
  cases hrx : (decide (0 ≤ x) && decide (x ≤ 4095))
  · have HX := Lib.hid hrx
    have HM : Hid (mArm ds b ⟨x, y⟩ = false) := Lib.hid (by
      rw [hM]
      cases hf : fitsA k ⟨x, y⟩
      · rfl
      · obtain ⟨p, q, e1, e2, h1, h2, _⟩ := fitsA_nat hf hk4
        simp only at e1 e2
        simp at hrx; omega)
    clear hrx hM
    go_enter Tryd.func76, Tryd.ntmps76
    go_wp2_with fail
    generalize ((w.alloc (.cells #[.slice A m c, .int .i64 b] 32)).alloc (.cells #[.int .i64 x, .int .i64 y] 27)) = w0 at *
    have c0 := HF.out.c0
    have c1 := HF.out.c1
    have x0 := HC.out.c0
    have x1 := HC.out.c1
    refine (mask_any ds _ _ _ _ HF.out.sd HIN.out HMM.out).mono ?_
    rintro e w' ⟨rfl, rfl⟩
    go_wp2_with fail
    refine (specVF_v ds b _ _ _ _ HF.out.sd HV.out).mono ?_
    rintro e w1 ⟨rfl, hb⟩
    have HC1 := Lib.hid (HC.out.below hb)
    have d0 := HC1.out.c0
    have d1 := HC1.out.c1
    have HB1 := Lib.hid (HF.out.after hb)
    clear hb HC HF c0 c1 x0 x1
    go_wp2_with (first | (go_at_call_of 89 x; refine (inRange_v x 0 4095 _ HX.out).mono ?_; rintro e w' ⟨rfl, rfl⟩))
    go_ret
    exact ⟨by rw [HM.out]; first | done | rfl, HB1.out⟩
  cases hry : (decide (0 ≤ y) && decide (y ≤ 4095))
  · have HX := Lib.hid hrx
    have HY := Lib.hid hry
    have HM : Hid (mArm ds b ⟨x, y⟩ = false) := Lib.hid (by
      rw [hM]
      cases hf : fitsA k ⟨x, y⟩
      · rfl
      · obtain ⟨p, q, e1, e2, h1, h2, _⟩ := fitsA_nat hf hk4
        simp only at e1 e2
        simp at hry; omega)
    clear hrx hry hM
    go_enter Tryd.func76, Tryd.ntmps76
    go_wp2_with fail
    generalize ((w.alloc (.cells #[.slice A m c, .int .i64 b] 32)).alloc (.cells #[.int .i64 x, .int .i64 y] 27)) = w0 at *
    have c0 := HF.out.c0
    have c1 := HF.out.c1
    have x0 := HC.out.c0
    have x1 := HC.out.c1
    refine (mask_any ds _ _ _ _ HF.out.sd HIN.out HMM.out).mono ?_
    rintro e w' ⟨rfl, rfl⟩
    go_wp2_with fail
    refine (specVF_v ds b _ _ _ _ HF.out.sd HV.out).mono ?_
    rintro e w1 ⟨rfl, hb⟩
    have HC1 := Lib.hid (HC.out.below hb)
    have d0 := HC1.out.c0
    have d1 := HC1.out.c1
    have HB1 := Lib.hid (HF.out.after hb)
    clear hb HC HF c0 c1 x0 x1
    go_wp2_with (first | (go_at_call_of 89 x; refine (inRange_v x 0 4095 _ HX.out).mono ?_; rintro e w' ⟨rfl, rfl⟩) | (go_at_call_of 89 y; refine (inRange_v y 0 4095 _ HY.out).mono ?_; rintro e w' ⟨rfl, rfl⟩))
    go_ret
    exact ⟨by rw [HM.out]; first | done | rfl, HB1.out⟩
  have HX := Lib.hid hrx
  have HY := Lib.hid hry
  simp only [Bool.and_eq_true, decide_eq_true_eq] at hrx hry
  obtain ⟨p, rfl⟩ : ∃ p : Nat, x = p := ⟨x.toNat, by omega⟩
  obtain ⟨q, rfl⟩ : ∃ q : Nat, y = q := ⟨y.toNat, by omega⟩
  have hp : p < 4096 := by omega
  have hq : q < 4096 := by omega
  have hM2 : mArm ds b ⟨p, q⟩ = fitsN k p q := by
    rw [hM]; unfold fitsA
    rw [decide_eq_true (show (0 : Int) ≤ p by omega), decide_eq_true (show (0 : Int) ≤ q by omega)]
    simp
  obtain ⟨s1, h1⟩ : ∃ s, nl p k = s := ⟨_, rfl⟩
  obtain ⟨s2, h2⟩ : ∃ s, nl q k = s := ⟨_, rfl⟩
  obtain ⟨s3, h3⟩ : ∃ s, p &&& q = s := ⟨_, rfl⟩
  unfold fitsN at hM2
  rw [h1, h2, h3] at hM2
  have H1 := Lib.hid h1
  have H2 := Lib.hid h2
  have H3 := Lib.hid h3
  clear hrx hry hM h1 h2 h3
  by_cases h10 : s1 = 0
  · by_cases h20 : s2 = 0
    · subst h10 h20
      have HM : Hid (mArm ds b ⟨p, q⟩ = decide (s3 = 0)) := Lib.hid (by rw [hM2]; simp)
      clear hM2
      go_enter Tryd.func76, Tryd.ntmps76
      go_wp2_with fail
      generalize ((w.alloc (.cells #[.slice A m c, .int .i64 b] 32)).alloc (.cells #[.int .i64 (p : Int), .int .i64 (q : Int)] 27)) = w0 at *
      have c0 := HF.out.c0
      have c1 := HF.out.c1
      have x0 := HC.out.c0
      have x1 := HC.out.c1
      refine (mask_any ds _ _ _ _ HF.out.sd HIN.out HMM.out).mono ?_
      rintro e w' ⟨rfl, rfl⟩
      go_wp2_with fail
      refine (specVF_v ds b _ _ _ _ HF.out.sd HV.out).mono ?_
      rintro e w1 ⟨rfl, hb⟩
      have HC1 := Lib.hid (HC.out.below hb)
      have d0 := HC1.out.c0
      have d1 := HC1.out.c1
      have HB1 := Lib.hid (HF.out.after hb)
      clear hb HC HF c0 c1 x0 x1
      go_wp2_with (first | (go_at_call_of 89 p; refine (inRange_v p 0 4095 _ HX.out).mono ?_; rintro e w' ⟨rfl, rfl⟩) | (go_at_call_of 89 q; refine (inRange_v q 0 4095 _ HY.out).mono ?_; rintro e w' ⟨rfl, rfl⟩) | (go_at_call_of 128 p; refine (less_any p k _ hp hk4 H1.out).mono ?_; rintro e w' ⟨rfl, rfl⟩) | (go_at_call_of 128 q; refine (less_any q k _ hq hk4 H2.out).mono ?_; rintro e w' ⟨rfl, rfl⟩) | (go_at_call 129; refine (both_v p q _ hp hq H3.out).mono ?_; rintro e w' ⟨rfl, rfl⟩))
      go_ret
      exact ⟨ret_bool (by rw [HM.out, Bool.eq_iff_iff]; simp), HB1.out⟩
    · subst h10
      have e2 : ((s2 : Int) == 0) = false := by rw [beq_eq_false_iff_ne]; omega
      have HM : Hid (mArm ds b ⟨p, q⟩ = false) := Lib.hid (by rw [hM2, decide_eq_false h20]; simp)
      clear hM2
      go_enter Tryd.func76, Tryd.ntmps76
      go_wp2_with fail
      generalize ((w.alloc (.cells #[.slice A m c, .int .i64 b] 32)).alloc (.cells #[.int .i64 (p : Int), .int .i64 (q : Int)] 27)) = w0 at *
      have c0 := HF.out.c0
      have c1 := HF.out.c1
      have x0 := HC.out.c0
      have x1 := HC.out.c1
      refine (mask_any ds _ _ _ _ HF.out.sd HIN.out HMM.out).mono ?_
      rintro e w' ⟨rfl, rfl⟩
      go_wp2_with fail
      refine (specVF_v ds b _ _ _ _ HF.out.sd HV.out).mono ?_
      rintro e w1 ⟨rfl, hb⟩
      have HC1 := Lib.hid (HC.out.below hb)
      have d0 := HC1.out.c0
      have d1 := HC1.out.c1
      have HB1 := Lib.hid (HF.out.after hb)
      clear hb HC HF c0 c1 x0 x1
      go_wp2_with (first | (go_at_call_of 89 p; refine (inRange_v p 0 4095 _ HX.out).mono ?_; rintro e w' ⟨rfl, rfl⟩) | (go_at_call_of 89 q; refine (inRange_v q 0 4095 _ HY.out).mono ?_; rintro e w' ⟨rfl, rfl⟩) | (go_at_call_of 128 p; refine (less_any p k _ hp hk4 H1.out).mono ?_; rintro e w' ⟨rfl, rfl⟩) | (go_at_call_of 128 q; refine (less_any q k _ hq hk4 H2.out).mono ?_; rintro e w' ⟨rfl, rfl⟩))
      go_ret
      exact ⟨by rw [HM.out]; first | done | rfl, HB1.out⟩
  · have e1 : ((s1 : Int) == 0) = false := by rw [beq_eq_false_iff_ne]; omega
    have HM : Hid (mArm ds b ⟨p, q⟩ = false) := Lib.hid (by rw [hM2, decide_eq_false h10]; simp)
    clear hM2
    go_enter Tryd.func76, Tryd.ntmps76
    go_wp2_with fail
    generalize ((w.alloc (.cells #[.slice A m c, .int .i64 b] 32)).alloc (.cells #[.int .i64 (p : Int), .int .i64 (q : Int)] 27)) = w0 at *
    have c0 := HF.out.c0
    have c1 := HF.out.c1
    have x0 := HC.out.c0
    have x1 := HC.out.c1
    refine (mask_any ds _ _ _ _ HF.out.sd HIN.out HMM.out).mono ?_
    rintro e w' ⟨rfl, rfl⟩
    go_wp2_with fail
    refine (specVF_v ds b _ _ _ _ HF.out.sd HV.out).mono ?_
    rintro e w1 ⟨rfl, hb⟩
    have HC1 := Lib.hid (HC.out.below hb)
    have d0 := HC1.out.c0
    have d1 := HC1.out.c1
    have HB1 := Lib.hid (HF.out.after hb)
    clear hb HC HF c0 c1 x0 x1
    go_wp2_with (first | (go_at_call_of 89 p; refine (inRange_v p 0 4095 _ HX.out).mono ?_; rintro e w' ⟨rfl, rfl⟩) | (go_at_call_of 89 q; refine (inRange_v q 0 4095 _ HY.out).mono ?_; rintro e w' ⟨rfl, rfl⟩) | (go_at_call_of 128 p; refine (less_any p k _ hp hk4 H1.out).mono ?_; rintro e w' ⟨rfl, rfl⟩))
    go_ret
    exact ⟨by rw [HM.out]; first | done | rfl, HB1.out⟩

end Go.Proofs.YtpfdghbjagdhfaaDoor
