import Derived.Test.YtkholjcmaebaaaaArmI
namespace Go.Proofs.Ytkholjcmaebaaaa
open Go.RowKit Go.Maps
set_option linter.unusedVariables false
set_option maxRecDepth 100000

theorem mArms_one (ds : List D) (b x y : Int) : mArms ds b [⟨x, y⟩] = mArm ds b ⟨x, y⟩ := by unfold mArms mArm; simp

set_option maxHeartbeats 2000000 in
theorem implValidArm_v (ds : List D) (b : Int) (x y : Int) (A : Option Addr) (m c : Nat) (w : World) (hr : SD w w.heap.size A m c ds) (hn : m ≤ 1048576) (hx : I64 x) (hy : I64 y) {v : Bool} (hm : mArm ds b ⟨x, y⟩ = v) :
    Calls Try.prog 95 #[.agg #[.slice A m c, .int .i64 b], .agg #[.int .i64 x, .int .i64 y]] w (fun e w' => e = .returned (.bool v) ∧ Below w.heap.size w w') := by
  have HM : Hid (mArms ds b [⟨x, y⟩] = v) := Lib.hid (by rw [mArms_one]; exact hm)
  obtain ⟨r, hr2⟩ : ∃ r : Int, (if mArms ds b [⟨x, y⟩] then ((mMask ds : Nat) : Int) else 0) = r := ⟨_, rfl⟩
  have HR2 := Lib.hid hr2
  clear hm hr2
  have HF := Lib.hid ((FB.start hr b).alloc (.cells #[.int .i64 x, .int .i64 y] 40))
  have HC : Hid (C2 ((w.alloc (.cells #[.slice A m c, .int .i64 b] 25)).alloc (.cells #[.int .i64 x, .int .i64 y] 40)) (w.heap.size + 1) (.int .i64 x) (.int .i64 y)) := Lib.hid (c2New' _ _ _ _ _)
  have hz0 : ((w.alloc (.cells #[.slice A m c, .int .i64 b] 25)).alloc (.cells #[.int .i64 x, .int .i64 y] 40)).heap.size = w.heap.size + 1 + 1 := by simp
  clear hr
  go_enter Try.func95, Try.ntmps95
  go_wp2_with fail
  generalize ((w.alloc (.cells #[.slice A m c, .int .i64 b] 25)).alloc (.cells #[.int .i64 x, .int .i64 y] 40)) = w0 at *
  have hb0 : Below w0.heap.size w0 (w0.alloc (.cells #[.int .i64 x, .int .i64 y] 40)) := (Below.refl _ _).alloc (Nat.le_refl _) _
  have HF1 := Lib.hid (HF.out.call hb0)
  have HC1 := Lib.hid (HC.out.below hb0)
  have HS1 : Hid (SA (w0.alloc (.cells #[.int .i64 x, .int .i64 y] 40)) (w0.alloc (.cells #[.int .i64 x, .int .i64 y] 40)).heap.size (some ⟨w.heap.size + 1 + 1, 0, none⟩) 1 1 [⟨x, y⟩]) := Lib.hid (by rw [← hz0]; exact (sa_one w0 x y _ hx hy).more (by simp))
  clear hb0 HF HC
  generalize hW : (w0.alloc (.cells #[.int .i64 x, .int .i64 y] 40)) = w1 at *
  clear hW
  refine (armsMask_v ds b [⟨x, y⟩] _ _ _ _ HF1.out.sd _ _ _ HS1.out hn HM.out HR2.out).mono ?_
  rintro e w2 ⟨rfl, hb⟩
  have HB2 := Lib.hid (HF1.out.after hb)
  clear hb
  go_wp2
  go_ret
  exact ⟨rfl, HB2.out⟩

set_option maxHeartbeats 4000000 in
theorem implMatchArm_v (ds : List D) (b : Int) (x y z : Int) (A : Option Addr) (m c : Nat) (w : World) (hr : SD w w.heap.size A m c ds) (hn : m ≤ 1048576) (hx : I64 x) (hy : I64 y) {v : Bool} (hv : mMatch ds b ⟨x, y⟩ z = v) :
    Calls Try.prog 24 #[.agg #[.slice A m c, .int .i64 b], .agg #[.int .i64 x, .int .i64 y], .int .i64 z] w (fun e w' => e = .returned (.bool v) ∧ Below w.heap.size w w') := by
  subst hv
  have HF := Lib.hid ((FB.start hr b).alloc (.cells #[.int .i64 x, .int .i64 y] 40))
  have HC : Hid (C2 ((w.alloc (.cells #[.slice A m c, .int .i64 b] 25)).alloc (.cells #[.int .i64 x, .int .i64 y] 40)) (w.heap.size + 1) (.int .i64 x) (.int .i64 y)) := Lib.hid (c2New' _ _ _ _ _)
  have hz0 : ((w.alloc (.cells #[.slice A m c, .int .i64 b] 25)).alloc (.cells #[.int .i64 x, .int .i64 y] 40)).heap.size = w.heap.size + 1 + 1 := by simp
  clear hr
  cases hm : mArm ds b ⟨x, y⟩
  · have HA := Lib.hid hm
    have HM : Hid (mMatch ds b ⟨x, y⟩ z = false) := Lib.hid (by unfold mMatch; rw [hm]; rfl)
    clear hm
    go_enter Try.func24, Try.ntmps24
    go_wp2_with fail
    generalize ((w.alloc (.cells #[.slice A m c, .int .i64 b] 25)).alloc (.cells #[.int .i64 x, .int .i64 y] 40)) = w0 at *
    refine (implValidArm_v ds b x y _ _ _ _ HF.out.sd hn hx hy HA.out).mono ?_
    rintro e w1 ⟨rfl, hb⟩
    have HB1 := Lib.hid (HF.out.after hb)
    clear hb
    go_wp2
    go_ret
    exact ⟨by rw [HM.out]; first | done | rfl, HB1.out⟩
  have HA := Lib.hid hm
  obtain ⟨p, q, e1, e2, hp, hq, _⟩ := mArm_nat hm
  simp only at e1 e2
  subst e1 e2
  clear hm
  obtain ⟨u, hu⟩ : ∃ u, mIsV ds b z = u := ⟨_, rfl⟩
  have HU := Lib.hid hu
  cases u
  · have HM : Hid (mMatch ds b ⟨p, q⟩ z = false) := Lib.hid (by unfold mMatch; rw [hu, Bool.and_false]; rfl)
    clear hu
    go_enter Try.func24, Try.ntmps24
    go_wp2_with fail
    generalize ((w.alloc (.cells #[.slice A m c, .int .i64 b] 25)).alloc (.cells #[.int .i64 (p : Int), .int .i64 (q : Int)] 40)) = w0 at *
    have c0 := HF.out.c0
    have c1 := HF.out.c1
    have x0 := HC.out.c0
    have x1 := HC.out.c1
    refine (implValidArm_v ds b p q _ _ _ _ HF.out.sd hn hx hy HA.out).mono ?_
    rintro e w1 ⟨rfl, hb⟩
    have HF1 := Lib.hid (HF.out.call hb)
    have HC1 := Lib.hid (HC.out.below hb)
    clear hb HF HC c0 c1 x0 x1
    have c0 := HF1.out.c0
    have c1 := HF1.out.c1
    have x0 := HC1.out.c0
    have x1 := HC1.out.c1
    go_wp2_with fail
    refine (implIsV_v ds b _ _ _ _ _ HF1.out.sd hn HU.out).mono ?_
    rintro e w2 ⟨rfl, hb⟩
    have HC2 := Lib.hid (HC1.out.below hb)
    have HB2 := Lib.hid (HF1.out.after hb)
    clear hb HF1 HC1 c0 c1 x0 x1
    have x0 := HC2.out.c0
    have x1 := HC2.out.c1
    go_wp2
    go_ret
    exact ⟨by rw [HM.out]; first | done | rfl, HB2.out⟩
  · obtain ⟨n, rfl, hn4⟩ := mIsV_nat hu
    obtain ⟨v, hv⟩ : ∃ v, matchN p q n = v := ⟨_, rfl⟩
    have HV := Lib.hid hv
    have HM : Hid (mMatch ds b ⟨p, q⟩ n = v) := Lib.hid (by unfold mMatch matchA; rw [HA.out, hu]; exact hv)
    clear hu hv
    go_enter Try.func24, Try.ntmps24
    go_wp2_with fail
    generalize ((w.alloc (.cells #[.slice A m c, .int .i64 b] 25)).alloc (.cells #[.int .i64 (p : Int), .int .i64 (q : Int)] 40)) = w0 at *
    have c0 := HF.out.c0
    have c1 := HF.out.c1
    have x0 := HC.out.c0
    have x1 := HC.out.c1
    refine (implValidArm_v ds b p q _ _ _ _ HF.out.sd hn hx hy HA.out).mono ?_
    rintro e w1 ⟨rfl, hb⟩
    have HF1 := Lib.hid (HF.out.call hb)
    have HC1 := Lib.hid (HC.out.below hb)
    clear hb HF HC c0 c1 x0 x1
    have c0 := HF1.out.c0
    have c1 := HF1.out.c1
    have x0 := HC1.out.c0
    have x1 := HC1.out.c1
    go_wp2_with fail
    refine (implIsV_v ds b _ _ _ _ _ HF1.out.sd hn HU.out).mono ?_
    rintro e w2 ⟨rfl, hb⟩
    have HC2 := Lib.hid (HC1.out.below hb)
    have HB2 := Lib.hid (HF1.out.after hb)
    clear hb HF1 HC1 c0 c1 x0 x1
    have x0 := HC2.out.c0
    have x1 := HC2.out.c1
    go_wp2_with (go_at_call 92; refine (armMatch_v p q n _ hp hq hn4 HV.out).mono ?_; rintro e w3 ⟨rfl, hb⟩; have HB3 := Lib.hid (HB2.out.trans (hb.mono HB2.out.size)); clear hb)
    go_ret
    exact ⟨by rw [HM.out]; first | done | rfl, HB3.out⟩

end Go.Proofs.Ytkholjcmaebaaaa
