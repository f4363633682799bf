import Derived.Test.YtiebdhbioccogaaGreatDoorBaseE
namespace Go.Proofs.YtiebdhbioccogaaGreatDoor
open Go.RowKit Go.Maps
set_option linter.unusedVariables false
set_option maxRecDepth 100000

set_option maxHeartbeats 400000 in
theorem bsOr_v (a b : Nat) (w : World) (ha : a < 4096) (hb : b < 4096) {v : Nat} (hv : a ||| b = v) :
    Calls Tryz.prog 129 #[.int .i64 a, .int .i64 b] w fun e w' => e = .returned (.int .i64 v) ∧ w = w' := by
  have h := i64_or_nat a b (by omega) (by omega)
  rw [hv] at h
  clear hv
  go_enter Tryz.func129, Tryz.ntmps129
  go_wp2
  go_ret
  exact ⟨rfl, rfl⟩
set_option maxHeartbeats 400000 in
theorem bsAnd_v (a b : Nat) (w : World) (ha : a < 4096) (hb : b < 4096) {v : Nat} (hv : a &&& b = v) :
    Calls Tryz.prog 185 #[.int .i64 a, .int .i64 b] w fun e w' => e = .returned (.int .i64 v) ∧ w = w' := by
  have h := i64_and_nat a b (by omega) (by omega)
  rw [hv] at h
  clear hv
  go_enter Tryz.func185, Tryz.ntmps185
  go_wp2
  go_ret
  exact ⟨rfl, rfl⟩
set_option maxHeartbeats 400000 in
theorem bsXor_v (a b : Nat) (w : World) (ha : a < 4096) (hb : b < 4096) {v : Nat} (hv : a ^^^ b = v) :
    Calls Tryz.prog 186 #[.int .i64 a, .int .i64 b] w fun e w' => e = .returned (.int .i64 v) ∧ w = w' := by
  have h := i64_xor_nat a b (by omega) (by omega)
  rw [hv] at h
  clear hv
  go_enter Tryz.func186, Tryz.ntmps186
  go_wp2
  go_ret
  exact ⟨rfl, rfl⟩
set_option maxHeartbeats 400000 in
theorem bsLess_v (a b : Nat) (w : World) (ha : a < 4096) (hb : b < 4096) {v : Nat} (hv : nl a b = v) :
    Calls Tryz.prog 174 #[.int .i64 a, .int .i64 b] w fun e w' => e = .returned (.int .i64 v) ∧ w = w' := by
  have h := i64_andNot_nat a b (by omega) (by omega)
  rw [hv] at h
  clear hv
  go_enter Tryz.func174, Tryz.ntmps174
  go_wp2
  go_ret
  exact ⟨rfl, rfl⟩
set_option maxHeartbeats 400000 in
theorem bsHas_v (a b : Nat) (w : World) (ha : a < 4096) (hb : b < 4096) {v : Bool} (hv : decide (nl b a = 0) = v) :
    Calls Tryz.prog 154 #[.int .i64 a, .int .i64 b] w fun e w' => e = .returned (.bool v) ∧ w = w' := by
  subst hv
  obtain ⟨z, hz⟩ : ∃ z, nl b a = z := ⟨_, rfl⟩
  rw [hz]
  have HZ := Lib.hid hz
  clear hz
  go_enter Tryz.func154, Tryz.ntmps154
  go_wp2_with (go_at_call 174; refine (bsLess_v b a _ hb ha HZ.out).mono ?_; rintro e w' ⟨rfl, rfl⟩)
  go_ret
  exact ⟨ret_bool (by rw [Bool.eq_iff_iff]; simp), rfl⟩
set_option maxHeartbeats 1000000 in
theorem operOr_v (w : World) :
    Calls Tryz.prog 163 #[.int .i64 0] w fun e w' => e = .returned (.func (.func 129) #[] #[]) ∧ Below w.heap.size w w' := by
  have hst := st_func
  go_enter Tryz.func163, Tryz.ntmps163
  go_wp2
  go_ret
  exact ⟨rfl, (Below.refl _ _).alloc (Nat.le_refl _) _⟩
set_option maxHeartbeats 1000000 in
theorem operAnd_v (w : World) :
    Calls Tryz.prog 163 #[.int .i64 1] w fun e w' => e = .returned (.func (.func 185) #[] #[]) ∧ Below w.heap.size w w' := by
  have hst := st_func
  go_enter Tryz.func163, Tryz.ntmps163
  go_wp2
  go_ret
  exact ⟨rfl, (Below.refl _ _).alloc (Nat.le_refl _) _⟩
set_option maxHeartbeats 1000000 in
theorem operXor_v (w : World) :
    Calls Tryz.prog 163 #[.int .i64 2] w fun e w' => e = .returned (.func (.func 186) #[] #[]) ∧ Below w.heap.size w w' := by
  have hst := st_func
  go_enter Tryz.func163, Tryz.ntmps163
  go_wp2
  go_ret
  exact ⟨rfl, (Below.refl _ _).alloc (Nat.le_refl _) _⟩
set_option maxHeartbeats 1000000 in
theorem operLess_v (w : World) :
    Calls Tryz.prog 163 #[.int .i64 3] w fun e w' => e = .returned (.func (.func 174) #[] #[]) ∧ Below w.heap.size w w' := by
  have hst := st_func
  go_enter Tryz.func163, Tryz.ntmps163
  go_wp2
  go_ret
  exact ⟨rfl, (Below.refl _ _).alloc (Nat.le_refl _) _⟩
set_option maxHeartbeats 2000000 in
theorem combinedOr_v (ds : List D) (b : Int) (x y : Int) (A : Option Addr) (m c : Nat) (w : World) (hr : SD w w.heap.size A m c ds) (hn : m ≤ 1048576) {r : Int} (hm : mOp orN ds b x y = r) :
    Calls Tryz.prog 134 #[.agg #[.slice A m c, .int .i64 b], .int .i64 x, .int .i64 y, .int .i64 0] w (fun e w' => e = .returned (.int .i64 r) ∧ Below w.heap.size w w') := by
  subst hm
  have HF := Lib.hid (FB.start hr b)
  clear hr
  cases hx : mIsV ds b x
  · have HX := Lib.hid hx
    have HM : Hid (mOp orN ds b x y = -1) := Lib.hid (if_no (by unfold mTwo; rw [hx]; rfl))
    clear hx
    go_enter Tryz.func134, Tryz.ntmps134
    go_wp2_with (go_at_call 123; refine (implIsV_v ds b x _ _ _ _ HF.out.sd hn HX.out).mono ?_; rintro e w' ⟨rfl, hb⟩)
    go_ret
    exact ⟨by rw [HM.out]; first | done | rfl, HF.out.after hb⟩
  cases hy : mIsV ds b y
  · have HX := Lib.hid hx
    have HY := Lib.hid hy
    have HM : Hid (mOp orN ds b x y = -1) := Lib.hid (if_no (by unfold mTwo; rw [hx, hy]; rfl))
    clear hx hy
    go_enter Tryz.func134, Tryz.ntmps134
    go_wp2_with fail
    refine (implIsV_v ds b x _ _ _ _ HF.out.sd hn HX.out).mono ?_
    rintro e w1 ⟨rfl, hb⟩
    have HF1 := Lib.hid (HF.out.call hb)
    have c0 := HF1.out.c0
    have c1 := HF1.out.c1
    clear hb HF
    go_wp2_with fail
    refine (implIsV_v ds b y _ _ _ _ HF1.out.sd hn HY.out).mono ?_
    rintro e w2 ⟨rfl, hb⟩
    have HB2 := Lib.hid (HF1.out.after hb)
    clear hb
    go_wp2
    go_ret
    exact ⟨by rw [HM.out]; first | done | rfl, HB2.out⟩
  obtain ⟨p, rfl, hp⟩ := mIsV_nat hx
  obtain ⟨q, rfl, hq⟩ := mIsV_nat hy
  have HX := Lib.hid hx
  have HY := Lib.hid hy
  obtain ⟨r, hr⟩ : ∃ r, orN p q = r := ⟨_, rfl⟩
  have HM : Hid (mOp orN ds b p q = (r : Int)) := Lib.hid (by unfold mOp mTwo; rw [hx, hy, Bool.and_self, if_pos rfl, Int.toNat_natCast, Int.toNat_natCast, hr])
  have HR := Lib.hid hr
  clear hx hy hr
  go_enter Tryz.func134, Tryz.ntmps134
  go_wp2_with fail
  refine (implIsV_v ds b p _ _ _ _ HF.out.sd hn HX.out).mono ?_
  rintro e w1 ⟨rfl, hb⟩
  have HF1 := Lib.hid (HF.out.call hb)
  have c0 := HF1.out.c0
  have c1 := HF1.out.c1
  clear hb HF
  go_wp2_with fail
  refine (implIsV_v ds b q _ _ _ _ HF1.out.sd hn HY.out).mono ?_
  rintro e w2 ⟨rfl, hb⟩
  have HF2 := Lib.hid (HF1.out.call hb)
  have d0 := HF2.out.c0
  have d1 := HF2.out.c1
  clear hb HF1 c0 c1
  go_wp2_with fail
  refine (operOr_v _).mono ?_
  rintro e w3 ⟨rfl, hb⟩
  have HB3 := Lib.hid (HF2.out.after hb)
  clear hb
  go_wp2_with fail
  refine (bsOr_v p q _ hp hq HR.out).mono ?_
  rintro e w4 ⟨rfl, rfl⟩
  go_wp2
  go_ret
  exact ⟨by rw [HM.out]; first | done | rfl, HB3.out⟩

set_option maxHeartbeats 2000000 in
theorem implOr_v (ds : List D) (b : Int) (x y : Int) (A : Option Addr) (m c : Nat) (w : World) (hr : SD w w.heap.size A m c ds) (hn : m ≤ 1048576) {r : Int} (hm : mOp orN ds b x y = r) :
    Calls Tryz.prog 99 #[.agg #[.slice A m c, .int .i64 b], .int .i64 x, .int .i64 y] w (fun e w' => e = .returned (.int .i64 r) ∧ Below w.heap.size w w') := by
  have HF := Lib.hid (FB.start hr b)
  have HM := Lib.hid hm
  clear hr hm
  go_enter Tryz.func99, Tryz.ntmps99
  go_wp2_with (go_at_call 134; refine (combinedOr_v ds b x y _ _ _ _ HF.out.sd hn HM.out).mono ?_; rintro e w' ⟨rfl, hb⟩)
  go_ret
  exact ⟨rfl, HF.out.after hb⟩

set_option maxHeartbeats 2000000 in
theorem combinedAnd_v (ds : List D) (b : Int) (x y : Int) (A : Option Addr) (m c : Nat) (w : World) (hr : SD w w.heap.size A m c ds) (hn : m ≤ 1048576) {r : Int} (hm : mOp andN ds b x y = r) :
    Calls Tryz.prog 134 #[.agg #[.slice A m c, .int .i64 b], .int .i64 x, .int .i64 y, .int .i64 1] w (fun e w' => e = .returned (.int .i64 r) ∧ Below w.heap.size w w') := by
  subst hm
  have HF := Lib.hid (FB.start hr b)
  clear hr
  cases hx : mIsV ds b x
  · have HX := Lib.hid hx
    have HM : Hid (mOp andN ds b x y = -1) := Lib.hid (if_no (by unfold mTwo; rw [hx]; rfl))
    clear hx
    go_enter Tryz.func134, Tryz.ntmps134
    go_wp2_with (go_at_call 123; refine (implIsV_v ds b x _ _ _ _ HF.out.sd hn HX.out).mono ?_; rintro e w' ⟨rfl, hb⟩)
    go_ret
    exact ⟨by rw [HM.out]; first | done | rfl, HF.out.after hb⟩
  cases hy : mIsV ds b y
  · have HX := Lib.hid hx
    have HY := Lib.hid hy
    have HM : Hid (mOp andN ds b x y = -1) := Lib.hid (if_no (by unfold mTwo; rw [hx, hy]; rfl))
    clear hx hy
    go_enter Tryz.func134, Tryz.ntmps134
    go_wp2_with fail
    refine (implIsV_v ds b x _ _ _ _ HF.out.sd hn HX.out).mono ?_
    rintro e w1 ⟨rfl, hb⟩
    have HF1 := Lib.hid (HF.out.call hb)
    have c0 := HF1.out.c0
    have c1 := HF1.out.c1
    clear hb HF
    go_wp2_with fail
    refine (implIsV_v ds b y _ _ _ _ HF1.out.sd hn HY.out).mono ?_
    rintro e w2 ⟨rfl, hb⟩
    have HB2 := Lib.hid (HF1.out.after hb)
    clear hb
    go_wp2
    go_ret
    exact ⟨by rw [HM.out]; first | done | rfl, HB2.out⟩
  obtain ⟨p, rfl, hp⟩ := mIsV_nat hx
  obtain ⟨q, rfl, hq⟩ := mIsV_nat hy
  have HX := Lib.hid hx
  have HY := Lib.hid hy
  obtain ⟨r, hr⟩ : ∃ r, andN p q = r := ⟨_, rfl⟩
  have HM : Hid (mOp andN ds b p q = (r : Int)) := Lib.hid (by unfold mOp mTwo; rw [hx, hy, Bool.and_self, if_pos rfl, Int.toNat_natCast, Int.toNat_natCast, hr])
  have HR := Lib.hid hr
  clear hx hy hr
  go_enter Tryz.func134, Tryz.ntmps134
  go_wp2_with fail
  refine (implIsV_v ds b p _ _ _ _ HF.out.sd hn HX.out).mono ?_
  rintro e w1 ⟨rfl, hb⟩
  have HF1 := Lib.hid (HF.out.call hb)
  have c0 := HF1.out.c0
  have c1 := HF1.out.c1
  clear hb HF
  go_wp2_with fail
  refine (implIsV_v ds b q _ _ _ _ HF1.out.sd hn HY.out).mono ?_
  rintro e w2 ⟨rfl, hb⟩
  have HF2 := Lib.hid (HF1.out.call hb)
  have d0 := HF2.out.c0
  have d1 := HF2.out.c1
  clear hb HF1 c0 c1
  go_wp2_with fail
  refine (operAnd_v _).mono ?_
  rintro e w3 ⟨rfl, hb⟩
  have HB3 := Lib.hid (HF2.out.after hb)
  clear hb
  go_wp2_with fail
  refine (bsAnd_v p q _ hp hq HR.out).mono ?_
  rintro e w4 ⟨rfl, rfl⟩
  go_wp2
  go_ret
  exact ⟨by rw [HM.out]; first | done | rfl, HB3.out⟩

set_option maxHeartbeats 2000000 in
theorem implAnd_v (ds : List D) (b : Int) (x y : Int) (A : Option Addr) (m c : Nat) (w : World) (hr : SD w w.heap.size A m c ds) (hn : m ≤ 1048576) {r : Int} (hm : mOp andN ds b x y = r) :
    Calls Tryz.prog 100 #[.agg #[.slice A m c, .int .i64 b], .int .i64 x, .int .i64 y] w (fun e w' => e = .returned (.int .i64 r) ∧ Below w.heap.size w w') := by
  have HF := Lib.hid (FB.start hr b)
  have HM := Lib.hid hm
  clear hr hm
  go_enter Tryz.func100, Tryz.ntmps100
  go_wp2_with (go_at_call 134; refine (combinedAnd_v ds b x y _ _ _ _ HF.out.sd hn HM.out).mono ?_; rintro e w' ⟨rfl, hb⟩)
  go_ret
  exact ⟨rfl, HF.out.after hb⟩

set_option maxHeartbeats 2000000 in
theorem combinedXor_v (ds : List D) (b : Int) (x y : Int) (A : Option Addr) (m c : Nat) (w : World) (hr : SD w w.heap.size A m c ds) (hn : m ≤ 1048576) {r : Int} (hm : mOp xorN ds b x y = r) :
    Calls Tryz.prog 134 #[.agg #[.slice A m c, .int .i64 b], .int .i64 x, .int .i64 y, .int .i64 2] w (fun e w' => e = .returned (.int .i64 r) ∧ Below w.heap.size w w') := by
  subst hm
  have HF := Lib.hid (FB.start hr b)
  clear hr
  cases hx : mIsV ds b x
  · have HX := Lib.hid hx
    have HM : Hid (mOp xorN ds b x y = -1) := Lib.hid (if_no (by unfold mTwo; rw [hx]; rfl))
    clear hx
    go_enter Tryz.func134, Tryz.ntmps134
    go_wp2_with (go_at_call 123; refine (implIsV_v ds b x _ _ _ _ HF.out.sd hn HX.out).mono ?_; rintro e w' ⟨rfl, hb⟩)
    go_ret
    exact ⟨by rw [HM.out]; first | done | rfl, HF.out.after hb⟩
  cases hy : mIsV ds b y
  · have HX := Lib.hid hx
    have HY := Lib.hid hy
    have HM : Hid (mOp xorN ds b x y = -1) := Lib.hid (if_no (by unfold mTwo; rw [hx, hy]; rfl))
    clear hx hy
    go_enter Tryz.func134, Tryz.ntmps134
    go_wp2_with fail
    refine (implIsV_v ds b x _ _ _ _ HF.out.sd hn HX.out).mono ?_
    rintro e w1 ⟨rfl, hb⟩
    have HF1 := Lib.hid (HF.out.call hb)
    have c0 := HF1.out.c0
    have c1 := HF1.out.c1
    clear hb HF
    go_wp2_with fail
    refine (implIsV_v ds b y _ _ _ _ HF1.out.sd hn HY.out).mono ?_
    rintro e w2 ⟨rfl, hb⟩
    have HB2 := Lib.hid (HF1.out.after hb)
    clear hb
    go_wp2
    go_ret
    exact ⟨by rw [HM.out]; first | done | rfl, HB2.out⟩
  obtain ⟨p, rfl, hp⟩ := mIsV_nat hx
  obtain ⟨q, rfl, hq⟩ := mIsV_nat hy
  have HX := Lib.hid hx
  have HY := Lib.hid hy
  obtain ⟨r, hr⟩ : ∃ r, xorN p q = r := ⟨_, rfl⟩
  have HM : Hid (mOp xorN ds b p q = (r : Int)) := Lib.hid (by unfold mOp mTwo; rw [hx, hy, Bool.and_self, if_pos rfl, Int.toNat_natCast, Int.toNat_natCast, hr])
  have HR := Lib.hid hr
  clear hx hy hr
  go_enter Tryz.func134, Tryz.ntmps134
  go_wp2_with fail
  refine (implIsV_v ds b p _ _ _ _ HF.out.sd hn HX.out).mono ?_
  rintro e w1 ⟨rfl, hb⟩
  have HF1 := Lib.hid (HF.out.call hb)
  have c0 := HF1.out.c0
  have c1 := HF1.out.c1
  clear hb HF
  go_wp2_with fail
  refine (implIsV_v ds b q _ _ _ _ HF1.out.sd hn HY.out).mono ?_
  rintro e w2 ⟨rfl, hb⟩
  have HF2 := Lib.hid (HF1.out.call hb)
  have d0 := HF2.out.c0
  have d1 := HF2.out.c1
  clear hb HF1 c0 c1
  go_wp2_with fail
  refine (operXor_v _).mono ?_
  rintro e w3 ⟨rfl, hb⟩
  have HB3 := Lib.hid (HF2.out.after hb)
  clear hb
  go_wp2_with fail
  refine (bsXor_v p q _ hp hq HR.out).mono ?_
  rintro e w4 ⟨rfl, rfl⟩
  go_wp2
  go_ret
  exact ⟨by rw [HM.out]; first | done | rfl, HB3.out⟩

set_option maxHeartbeats 2000000 in
theorem combinedLess_v (ds : List D) (b : Int) (x y : Int) (A : Option Addr) (m c : Nat) (w : World) (hr : SD w w.heap.size A m c ds) (hn : m ≤ 1048576) {r : Int} (hm : mOp nl ds b x y = r) :
    Calls Tryz.prog 134 #[.agg #[.slice A m c, .int .i64 b], .int .i64 x, .int .i64 y, .int .i64 3] w (fun e w' => e = .returned (.int .i64 r) ∧ Below w.heap.size w w') := by
  subst hm
  have HF := Lib.hid (FB.start hr b)
  clear hr
  cases hx : mIsV ds b x
  · have HX := Lib.hid hx
    have HM : Hid (mOp nl ds b x y = -1) := Lib.hid (if_no (by unfold mTwo; rw [hx]; rfl))
    clear hx
    go_enter Tryz.func134, Tryz.ntmps134
    go_wp2_with (go_at_call 123; refine (implIsV_v ds b x _ _ _ _ HF.out.sd hn HX.out).mono ?_; rintro e w' ⟨rfl, hb⟩)
    go_ret
    exact ⟨by rw [HM.out]; first | done | rfl, HF.out.after hb⟩
  cases hy : mIsV ds b y
  · have HX := Lib.hid hx
    have HY := Lib.hid hy
    have HM : Hid (mOp nl ds b x y = -1) := Lib.hid (if_no (by unfold mTwo; rw [hx, hy]; rfl))
    clear hx hy
    go_enter Tryz.func134, Tryz.ntmps134
    go_wp2_with fail
    refine (implIsV_v ds b x _ _ _ _ HF.out.sd hn HX.out).mono ?_
    rintro e w1 ⟨rfl, hb⟩
    have HF1 := Lib.hid (HF.out.call hb)
    have c0 := HF1.out.c0
    have c1 := HF1.out.c1
    clear hb HF
    go_wp2_with fail
    refine (implIsV_v ds b y _ _ _ _ HF1.out.sd hn HY.out).mono ?_
    rintro e w2 ⟨rfl, hb⟩
    have HB2 := Lib.hid (HF1.out.after hb)
    clear hb
    go_wp2
    go_ret
    exact ⟨by rw [HM.out]; first | done | rfl, HB2.out⟩
  obtain ⟨p, rfl, hp⟩ := mIsV_nat hx
  obtain ⟨q, rfl, hq⟩ := mIsV_nat hy
  have HX := Lib.hid hx
  have HY := Lib.hid hy
  obtain ⟨r, hr⟩ : ∃ r, nl p q = r := ⟨_, rfl⟩
  have HM : Hid (mOp nl ds b p q = (r : Int)) := Lib.hid (by unfold mOp mTwo; rw [hx, hy, Bool.and_self, if_pos rfl, Int.toNat_natCast, Int.toNat_natCast, hr])
  have HR := Lib.hid hr
  clear hx hy hr
  go_enter Tryz.func134, Tryz.ntmps134
  go_wp2_with fail
  refine (implIsV_v ds b p _ _ _ _ HF.out.sd hn HX.out).mono ?_
  rintro e w1 ⟨rfl, hb⟩
  have HF1 := Lib.hid (HF.out.call hb)
  have c0 := HF1.out.c0
  have c1 := HF1.out.c1
  clear hb HF
  go_wp2_with fail
  refine (implIsV_v ds b q _ _ _ _ HF1.out.sd hn HY.out).mono ?_
  rintro e w2 ⟨rfl, hb⟩
  have HF2 := Lib.hid (HF1.out.call hb)
  have d0 := HF2.out.c0
  have d1 := HF2.out.c1
  clear hb HF1 c0 c1
  go_wp2_with fail
  refine (operLess_v _).mono ?_
  rintro e w3 ⟨rfl, hb⟩
  have HB3 := Lib.hid (HF2.out.after hb)
  clear hb
  go_wp2_with fail
  refine (bsLess_v p q _ hp hq HR.out).mono ?_
  rintro e w4 ⟨rfl, rfl⟩
  go_wp2
  go_ret
  exact ⟨by rw [HM.out]; first | done | rfl, HB3.out⟩

set_option maxHeartbeats 2000000 in
theorem implLess_v (ds : List D) (b : Int) (x y : Int) (A : Option Addr) (m c : Nat) (w : World) (hr : SD w w.heap.size A m c ds) (hn : m ≤ 1048576) {r : Int} (hm : mOp nl ds b x y = r) :
    Calls Tryz.prog 101 #[.agg #[.slice A m c, .int .i64 b], .int .i64 x, .int .i64 y] w (fun e w' => e = .returned (.int .i64 r) ∧ Below w.heap.size w w') := by
  have HF := Lib.hid (FB.start hr b)
  have HM := Lib.hid hm
  clear hr hm
  go_enter Tryz.func101, Tryz.ntmps101
  go_wp2_with (go_at_call 134; refine (combinedLess_v ds b x y _ _ _ _ HF.out.sd hn HM.out).mono ?_; rintro e w' ⟨rfl, hb⟩)
  go_ret
  exact ⟨rfl, HF.out.after hb⟩

set_option maxHeartbeats 2000000 in
theorem implInv_v (ds : List D) (b : Int) (x : Int) (A : Option Addr) (m c : Nat) (w : World) (hr : SD w w.heap.size A m c ds) (hn : m ≤ 1048576) {r : Int} (hm : mInv ds b x = r) :
    Calls Tryz.prog 98 #[.agg #[.slice A m c, .int .i64 b], .int .i64 x] w (fun e w' => e = .returned (.int .i64 r) ∧ Below w.heap.size w w') := by
  subst hm
  have HF := Lib.hid (FB.start hr b)
  clear hr
  cases hv : mIsV ds b x
  · have HV := Lib.hid hv
    have HM : Hid (mInv ds b x = -1) := Lib.hid (if_no hv)
    clear hv
    go_enter Tryz.func98, Tryz.ntmps98
    go_wp2_with (go_at_call 123; refine (implIsV_v ds b x _ _ _ _ HF.out.sd hn HV.out).mono ?_; rintro e w' ⟨rfl, hb⟩)
    go_ret
    exact ⟨by rw [HM.out]; first | done | rfl, HF.out.after hb⟩
  obtain ⟨p, rfl, hp⟩ := mIsV_nat hv
  have HV := Lib.hid hv
  obtain ⟨r, hr⟩ : ∃ r : Int, mInv ds b p = r := ⟨_, rfl⟩
  have hval : mValue ds b (-(p : Int) - 1) = (r, 0) := by
    have h1 : inV (-(p : Int) - 1) = true := by unfold inV; simp; omega
    unfold mValue
    rw [mIsV_flag hv, h1, Bool.and_self, if_pos rfl, mMade_neg (by omega), ← hr]
    unfold mInv
    rw [hv, if_pos rfl, show -(-(p : Int) - 1) - 1 = (p : Int) by omega]
  have HM := Lib.hid hr
  have HX : Hid ((mValue ds b (-(p : Int) - 1)).1 = r) := Lib.hid (by rw [hval])
  have HY : Hid ((mValue ds b (-(p : Int) - 1)).2 = 0) := Lib.hid (by rw [hval])
  clear hv hr hval
  go_enter Tryz.func98, Tryz.ntmps98
  go_wp2_with fail
  refine (implIsV_v ds b p _ _ _ _ HF.out.sd hn HV.out).mono ?_
  rintro e w1 ⟨rfl, hb⟩
  have HF1 := Lib.hid (HF.out.call hb)
  have c0 := HF1.out.c0
  have c1 := HF1.out.c1
  clear hb HF
  go_wp2_with fail
  refine (implMake_v ds b _ _ _ _ _ HF1.out.sd hn HX.out HY.out).mono ?_
  rintro e w2 ⟨rfl, hb⟩
  have HB2 := Lib.hid (HF1.out.after hb)
  clear hb
  go_wp2
  go_ret
  exact ⟨by rw [HM.out]; first | done | rfl, HB2.out⟩

end Go.Proofs.YtiebdhbioccogaaGreatDoor
