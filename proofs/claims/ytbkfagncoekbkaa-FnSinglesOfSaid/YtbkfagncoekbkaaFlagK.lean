import Derived.Test.YtbkfagncoekbkaaFlagJ
import Derived.Test.YtbkfagncoekbkaaCel
namespace Go.Proofs.Ytbkfagncoekbkaa
open Go.RowKit Go.Maps
set_option linter.unusedVariables false
set_option maxRecDepth 100000

theorem st_nilFunc (w : World) (a : Addr) : (store a .nilFunc).run Try.prog w = stored Try.prog w a .nilFunc .plain := run_store Try.prog w a _ .plain rfl
theorem st_func (w : World) (a : Addr) (f : Fn) (x y : Array Value) : (store a (.func f x y)).run Try.prog w = stored Try.prog w a (.func f x y) .plain := run_store Try.prog w a _ .plain rfl
/-! ### classes that are ready to be asked -/
def mWhole (ds : List D) (b : Int) : Nat := if b = 3 then mHigh ds else mMask ds
def ClassV (A : Option Addr) (n c : Nat) (ds : List D) (b : Int) : Value := .agg #[.slice A n c, bdF b, .int .i64 (mWhole ds b)]

set_option maxHeartbeats 4000000 in
theorem classOf_no (ds : List D) (b : Int) (A : Option Addr) (n c : Nat) (w : World) (hr : SD w w.heap.size A n c ds) (hn : n ≤ 1048576) (hv : vFlag ds b = false) :
    Calls Try.prog 83 #[.agg #[.slice A n c, .int .i64 b]] w fun e w' => e = .returned (.tuple #[.agg #[.slice none 0 0, .nilFunc, .int .i64 0], .bool false]) ∧ Below w.heap.size w w' := by
  have HF := Lib.hid ((FB.start hr b).alloc (.cells #[.slice none 0 0, .nilFunc, .int .i64 0] 99))
  have HC : Hid (C3 ((w.alloc (.cells #[.slice A n c, .int .i64 b] 25)).alloc (.cells #[.slice none 0 0, .nilFunc, .int .i64 0] 99)) (w.heap.size + 1) (.slice none 0 0) .nilFunc (.int .i64 0)) := Lib.hid (by
    have := c3New (w.alloc (.cells #[.slice A n c, .int .i64 b] 25)) (.slice none 0 0) .nilFunc (.int .i64 0) 99
    simpa using this)
  have HV := Lib.hid hv
  have hst := st_nilFunc
  clear hr hv
  go_enter Try.func83, Try.ntmps83
  go_wp2_with fail
  refine (implVF_v ds b _ _ _ _ HF.out.sd hn HV.out).mono ?_
  rintro e w1 ⟨rfl, hb⟩
  have HF1 := Lib.hid (HF.out.call hb)
  obtain ⟨c0, c1, c2, f0, f1, f2⟩ := HC.out.below hb
  clear hb
  go_wp2
  exact bodyPost_ret (v := .tuple #[.agg #[.slice none 0 0, .nilFunc, .int .i64 0], .bool false]) (by simp [results, Try.results83, go_sem, c0, c1, c2]) rfl ⟨rfl, ((HF1.out.bel.setCell (by show w.heap.size ≤ w.heap.size + 1; omega) _).setCell (by show w.heap.size ≤ w.heap.size + 1; omega) _).setCell (by show w.heap.size ≤ w.heap.size + 1; omega) _⟩

set_option maxHeartbeats 8000000 in
theorem classOf_yes (ds : List D) (b : Int) (A : Option Addr) (n c : Nat) (w : World) (hr : SD w w.heap.size A n c ds) (hv : vFlag ds b = true) :
    Calls Try.prog 83 #[.agg #[.slice A n c, .int .i64 b]] w fun e w' => e = .returned (.tuple #[ClassV A n c ds b, .bool true]) ∧ Below w.heap.size w w' := by
  have HF := Lib.hid ((FB.start hr b).alloc (.cells #[.slice none 0 0, .nilFunc, .int .i64 0] 99))
  have HC : Hid (C3 ((w.alloc (.cells #[.slice A n c, .int .i64 b] 25)).alloc (.cells #[.slice none 0 0, .nilFunc, .int .i64 0] 99)) (w.heap.size + 1) (.slice none 0 0) .nilFunc (.int .i64 0)) := Lib.hid (by
    have := c3New (w.alloc (.cells #[.slice A n c, .int .i64 b] 25)) (.slice none 0 0) .nilFunc (.int .i64 0) 99
    simpa using this)
  have HN : Hid (n ≤ 1048576) := Lib.hid (by have := vFlag_len hv; have := hr.len; omega)
  have HS40 := Lib.hid (small40 (vFlag_in hv))
  have hbd := vFlag_bound hv
  have HV := Lib.hid hv
  obtain ⟨mk, hmk⟩ : ∃ mk, mMask ds = mk := ⟨_, rfl⟩
  obtain ⟨hg, hhg⟩ : ∃ hg, mHigh ds = hg := ⟨_, rfl⟩
  have HMK := Lib.hid hmk
  have HHG := Lib.hid hhg
  have HW : Hid (mWhole ds b = if b = 3 then hg else mk) := Lib.hid (by unfold mWhole; rw [hmk, hhg])
  clear hr hv hmk hhg
  unfold ClassV
  have hst := st_nilFunc
  have hst2 := st_func
  go_enter Try.func83, Try.ntmps83
  go_wp2_with fail
  refine (implVF_v ds b _ _ _ _ HF.out.sd HN.out HV.out).mono ?_
  rintro e w1 ⟨rfl, hb⟩
  have HF1 := Lib.hid (HF.out.call hb)
  have HC1 := Lib.hid (HC.out.below hb)
  have k0 := HF1.out.c0
  have k1 := HF1.out.c1
  clear hb HF HC
  obtain ⟨w2, hw2⟩ : ∃ w2 : World, w2 = w1.alloc (.cells #[.slice A n c, .nilFunc, .int .i64 0] 99) := ⟨_, rfl⟩
  have hb2 : Below w1.heap.size w1 w2 := by rw [hw2]; exact (Below.refl _ _).alloc (Nat.le_refl _) _
  have HF2 := Lib.hid (HF1.out.call hb2)
  have HC2 := Lib.hid (HC1.out.below hb2)
  have HD2 : Hid (C3 w2 w1.heap.size (.slice A n c) .nilFunc (.int .i64 0)) := Lib.hid (by rw [hw2]; exact c3New _ _ _ _ _)
  have l0 : (w1.alloc (.cells #[.slice A n c, .nilFunc, .int .i64 0] 99)).cell? ⟨w1.heap.size, 0, none⟩ = some (.slice A n c) := by simp [go_sem]
  have HW2 := Lib.hid hw2.symm
  have hR : w.heap.size + 1 < w1.heap.size := HC1.out.lt
  clear hb2 hw2 HF1 HC1
  go_wp2_with fail
  rw [HW2.out]
  clear l0 k0 k1
  refine (implMask_v ds _ _ _ _ HF2.out.sd HS40.out HMK.out).mono ?_
  rintro e w3 ⟨rfl, hb⟩
  have HF3 := Lib.hid (HF2.out.call hb)
  have HC3 := Lib.hid (HC2.out.below hb)
  have HD3 := Lib.hid (HD2.out.below hb)
  clear hb HF2 HC2 HD2 HW2
  generalize w1.heap.size = G at *
  obtain ⟨r0, r1, r2, s0, s1, s2⟩ := HC3.out
  obtain ⟨d0, d1, d2, e0, e1, e2⟩ := HD3.out
  have k0 := HF3.out.c0
  have k1 := HF3.out.c1
  have q1 : w.heap.size ≠ G := by omega
  have q2 : w.heap.size + 1 ≠ G := by omega
  have q3 : G ≠ w.heap.size := by omega
  have q4 : G ≠ w.heap.size + 1 := by omega
  have p1 : w.heap.size ≤ G := by omega
  have p2 : w.heap.size ≤ w.heap.size + 1 := by omega
  obtain ⟨hb0, hb4⟩ := hbd
  have HB3 := Lib.hid HF3.out.bel
  rcases (show b = 0 ∨ b = 1 ∨ b = 2 ∨ b = 3 by omega) with rfl | rfl | rfl | rfl
  · have HWW : Hid (mWhole ds 0 = mk) := Lib.hid (by rw [HW.out]; rfl)
    go_wp2
    refine bodyPost_ret (v := .tuple #[.agg #[.slice A n c, bdF 0, .int .i64 mk], .bool true]) (by simp [results, Try.results83, go_sem, r0, r1, r2, bdF]) rfl ⟨by rw [HWW.out], ?_⟩
    exact ((((HB3.out.setCell p1 _).setCell p1 _).setCell p2 _).setCell p2 _).setCell p2 _
  · have HWW : Hid (mWhole ds 1 = mk) := Lib.hid (by rw [HW.out]; rfl)
    go_wp2
    refine bodyPost_ret (v := .tuple #[.agg #[.slice A n c, bdF 1, .int .i64 mk], .bool true]) (by simp [results, Try.results83, go_sem, r0, r1, r2, bdF]) rfl ⟨by rw [HWW.out], ?_⟩
    exact ((((HB3.out.setCell p1 _).setCell p1 _).setCell p2 _).setCell p2 _).setCell p2 _
  · have HWW : Hid (mWhole ds 2 = mk) := Lib.hid (by rw [HW.out]; rfl)
    go_wp2
    refine bodyPost_ret (v := .tuple #[.agg #[.slice A n c, bdF 2, .int .i64 mk], .bool true]) (by simp [results, Try.results83, go_sem, r0, r1, r2, bdF]) rfl ⟨by rw [HWW.out], ?_⟩
    exact ((((HB3.out.setCell p1 _).setCell p1 _).setCell p2 _).setCell p2 _).setCell p2 _
  · have HWW : Hid (mWhole ds 3 = hg) := Lib.hid (by rw [HW.out]; rfl)
    go_wp2_with fail
    obtain ⟨w4, hw4⟩ : ∃ w4 : World, w4 = (w3.setCell ⟨G, 2, none⟩ (.int .i64 mk)).setCell ⟨G, 1, none⟩ (.func (.func 145) #[] #[]) := ⟨_, rfl⟩
    have hf4 : FB w w4 w.heap.size A n c ds 3 := by rw [hw4]; exact (HF3.out.set p1 q3 _).set p1 q3 _
    have hd4 : C3 w4 G (.slice A n c) (.func (.func 145) #[] #[]) (.int .i64 mk) := by rw [hw4]; exact (HD3.out.set2 _).set1 _
    have hc4 : C3 w4 (w.heap.size + 1) (.slice none 0 0) .nilFunc (.int .i64 0) := by rw [hw4]; exact (HC3.out.setO q4 _).setO q4 _
    rw [← hw4]
    have HF4 := Lib.hid hf4
    have HD4 := Lib.hid hd4
    have HC4 := Lib.hid hc4
    clear hf4 hd4 hc4 hw4 r0 r1 r2 s0 s1 s2 d0 d1 d2 e0 e1 e2 k0 k1 HF3 HC3 HD3 HB3
    refine (implHigh_v ds _ _ _ _ HF4.out.sd HS40.out HHG.out).mono ?_
    rintro e w5 ⟨rfl, hb⟩
    have HB5 := Lib.hid (HF4.out.call hb).bel
    obtain ⟨r0, r1, r2, s0, s1, s2⟩ := HC4.out.below hb
    obtain ⟨d0, d1, d2, e0, e1, e2⟩ := HD4.out.below hb
    clear hb HF4 HD4 HC4
    go_wp2
    refine bodyPost_ret (v := .tuple #[.agg #[.slice A n c, bdF 3, .int .i64 hg], .bool true]) (by simp [results, Try.results83, go_sem, r0, r1, r2, bdF]) rfl ⟨by rw [HWW.out], ?_⟩
    exact (((HB5.out.setCell p1 _).setCell p2 _).setCell p2 _).setCell p2 _

/-! ### how a class makes values -/
theorem mWhole_lt {ds : List D} {b : Int} (h : ∀ d ∈ ds, inR d) : mWhole ds b < 4096 := by
  unfold mWhole
  split
  · exact mHigh_lt h
  · exact mMask_lt12 h
/-- What a number makes, by what the class has ready. -/
theorem mMade_neg {ds : List D} {b n : Int} (h : n < 0) : mMade ds b n = (((nl (mWhole ds b) (-n - 1).toNat : Nat) : Int), 0) := by
  unfold mMade mWhole
  rw [if_pos h]
  split <;> rfl
theorem mMade_in {ds : List D} {b n : Int} (h : ¬ n < 0) (h2 : nl n.toNat (mMask ds) = 0) : mMade ds b n = (n, 0) := by
  unfold mMade; rw [if_neg h, if_pos h2]
theorem mMade_un {ds : List D} {b n : Int} (h : ¬ n < 0) (h2 : ¬ nl n.toNat (mMask ds) = 0) : mMade ds b n = if b = 0 then (0, 2) else if b = 1 then (((n.toNat &&& mMask ds : Nat) : Int), 0) else if b = 2 then (n, 1) else (n, 0) := by
  unfold mMade; rw [if_neg h, if_neg h2]

set_option maxHeartbeats 4000000 in
theorem classMade_v (ds : List D) (b n : Int) (A : Option Addr) (m c : Nat) (w : World) (hr : SD w w.heap.size A m c ds) (hin : ∀ d ∈ ds, inR d) (hbd : 0 ≤ b ∧ b ≤ 3) {x y : Int} (hx : (if inV n then mMade ds b n else (0, 2)).1 = x) (hy : (if inV n then mMade ds b n else (0, 2)).2 = y) :
    Calls Try.prog 95 #[ClassV A m c ds b, .int .i64 n] w fun e w' => e = .returned (.tuple #[.int .i64 x, .int .i64 y]) ∧ Below w.heap.size w w' := by
  subst hx hy
  have h1 := mMask_lt12 hin
  have h2 := mWhole_lt (b := b) hin
  have HS40 := Lib.hid (small40 hin)
  obtain ⟨md, hmd⟩ : ∃ md, (if inV n then mMade ds b n else (0, 2)) = md := ⟨_, rfl⟩
  rw [hmd]
  obtain ⟨mk, hmk⟩ : ∃ mk, mMask ds = mk := ⟨_, rfl⟩
  obtain ⟨wh, hwh⟩ : ∃ wh, mWhole ds b = wh := ⟨_, rfl⟩
  rw [hmk] at h1
  rw [hwh] at h2
  have HMK := Lib.hid hmk
  have HMD := Lib.hid hmd
  unfold ClassV
  rw [hwh]
  have HWH := Lib.hid hwh
  clear hmd hmk hwh hin
  have b1 : Below w.heap.size w (w.alloc (.cells #[.slice A m c, bdF b, .int .i64 wh] 99)) := (Below.refl _ _).alloc (Nat.le_refl _) _
  have HB1 := Lib.hid b1
  have HS := Lib.hid ((hr.below b1).call b1.size)
  have HC : Hid (C3 (w.alloc (.cells #[.slice A m c, bdF b, .int .i64 wh] 99)) w.heap.size (.slice A m c) (bdF b) (.int .i64 wh)) := Lib.hid (c3New _ _ _ _ _)
  clear b1 hr
  go_enter Try.func95, Try.ntmps95
  go_wp2_with fail
  refine (implMask_v ds _ _ _ _ HS.out HS40.out HMK.out).mono ?_
  rintro e w2 ⟨rfl, hb⟩
  have HB2 := Lib.hid (HB1.out.trans (hb.mono HB1.out.size))
  obtain ⟨d0, d1, d2, e0, e1, e2⟩ := HC.out.below hb
  clear hb HB1 HS HC
  by_cases hlo : n < -4096
  · have HR : Hid (md = (0, 2)) := Lib.hid (by rw [← HMD.out]; unfold inV; rw [decide_eq_false (by omega)]; rfl)
    go_wp2
    go_ret2
    exact ⟨by rw [HR.out]; first | done | rfl, HB2.out⟩
  by_cases hhi : 4095 < n
  · have HR : Hid (md = (0, 2)) := Lib.hid (by rw [← HMD.out]; unfold inV; rw [decide_eq_false (p := n ≤ 4095) (by omega)]; simp)
    go_wp2
    go_ret2
    exact ⟨by rw [HR.out]; first | done | rfl, HB2.out⟩
  have HR0 : Hid (md = mMade ds b n) := Lib.hid (by rw [← HMD.out]; unfold inV; rw [decide_eq_true (p := n ≤ 4095) (by omega), decide_eq_true (p := -4096 ≤ n) (by omega)]; rfl)
  clear HMD
  by_cases hneg : n < 0
  · obtain ⟨k, hk⟩ : ∃ k : Nat, -n - 1 = k := ⟨(-n - 1).toNat, by omega⟩
    have hk4 : k < 4096 := by omega
    have HR : Hid (md = (((nl wh k : Nat) : Int), 0)) := Lib.hid (by rw [HR0.out, mMade_neg hneg, HWH.out, hk]; rfl)
    have hnl := i64_andNot_nat wh k (by omega) (by omega)
    generalize nl wh k = z at *
    go_wp2
    go_ret2
    exact ⟨by rw [HR.out]; first | done | rfl, HB2.out⟩
  obtain ⟨k, rfl⟩ : ∃ k : Nat, n = k := ⟨n.toNat, by omega⟩
  have hk4 : k < 4096 := by omega
  have hnl := i64_andNot_nat k mk (by omega) (by omega)
  by_cases hz : nl k mk = 0
  · have HR : Hid (md = ((k : Int), 0)) := Lib.hid (by rw [HR0.out, mMade_in hneg (by rw [Int.toNat_natCast, HMK.out]; exact hz)])
    rw [hz] at hnl
    clear hz
    go_wp2
    go_ret2
    exact ⟨by rw [HR.out]; first | done | rfl, HB2.out⟩
  have HR1 : Hid (md = if b = 0 then (0, 2) else if b = 1 then (((k &&& mk : Nat) : Int), 0) else if b = 2 then ((k : Int), 1) else ((k : Int), 0)) := Lib.hid (by rw [HR0.out, mMade_un hneg (by rw [Int.toNat_natCast, HMK.out]; exact hz), Int.toNat_natCast, HMK.out])
  have hz2 : (((nl k mk : Nat) : Int) == 0) = false := by rw [beq_eq_false_iff_ne]; omega
  generalize nl k mk = z at *
  clear HR0 hz
  obtain ⟨hb0, hb4⟩ := hbd
  rcases (show b = 0 ∨ b = 1 ∨ b = 2 ∨ b = 3 by omega) with rfl | rfl | rfl | rfl
  · have HR : Hid (md = (0, 2)) := Lib.hid (by rw [HR1.out]; rfl)
    have d1' : w2.cell? ⟨w.heap.size, 1, none⟩ = some (.func (.func 142) #[] #[]) := d1
    clear HR1 d1
    go_wp2_with (go_at_call 142; refine (refuse_any _ _ _).mono ?_; rintro e w' ⟨rfl, rfl⟩)
    go_ret2
    exact ⟨by rw [HR.out]; first | done | rfl, HB2.out⟩
  · have HR : Hid (md = (((k &&& mk : Nat) : Int), 0)) := Lib.hid (by rw [HR1.out]; rfl)
    have d1' : w2.cell? ⟨w.heap.size, 1, none⟩ = some (.func (.func 143) #[] #[]) := d1
    clear HR1 d1
    go_wp2_with (go_at_call 143; refine (leaveOut_any k mk _ hk4 h1).mono ?_; rintro e w' ⟨rfl, rfl⟩)
    go_ret2
    exact ⟨by rw [HR.out]; first | done | rfl, HB2.out⟩
  · have HR : Hid (md = ((k : Int), 1)) := Lib.hid (by rw [HR1.out]; rfl)
    have d1' : w2.cell? ⟨w.heap.size, 1, none⟩ = some (.func (.func 144) #[] #[]) := d1
    clear HR1 d1
    go_wp2_with (go_at_call 144; refine (eject_any _ _ _).mono ?_; rintro e w' ⟨rfl, rfl⟩)
    go_ret2
    exact ⟨by rw [HR.out]; first | done | rfl, HB2.out⟩
  · have HR : Hid (md = ((k : Int), 0)) := Lib.hid (by rw [HR1.out]; rfl)
    have d1' : w2.cell? ⟨w.heap.size, 1, none⟩ = some (.func (.func 145) #[] #[]) := d1
    clear HR1 d1
    go_wp2_with (go_at_call 145; refine (keep_any _ _ _).mono ?_; rintro e w' ⟨rfl, rfl⟩)
    go_ret2
    exact ⟨by rw [HR.out]; first | done | rfl, HB2.out⟩
end Go.Proofs.Ytbkfagncoekbkaa
