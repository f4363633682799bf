import Derived.Test.YtnaojafidhloeaaFlagB
import Derived.Test.YtnaojafidhloeaaEdit
namespace Go.Proofs.Ytnaojafidhloeaa
open Go.RowKit Go.Maps
set_option linter.unusedVariables false
set_option maxRecDepth 100000

/-! ### the model's functions of chapter 3 -/
def mMaskOf (ds : List D) (b : Int) : Int := if vFlag ds b then (mMask ds : Int) else -1
def mLooseOf (ds : List D) (b : Int) : Int := if vFlag ds b then (mLoose ds : Int) else -1
def mHighOf (ds : List D) (b : Int) : Int := if vFlag ds b then (mHigh ds : Int) else -1
def mSgOf (ds : List D) (b : Int) : List ByteArray := if vFlag ds b then (mSg ds).map (·.name) else []
def mCompOf (ds : List D) (b : Int) : List ByteArray := if vFlag ds b then (mComp ds).map (·.name) else []
def compTo (ds : List D) (k : Nat) : List D := (ds.take k).filter isComp
theorem compTo_succ (ds : List D) (k : Nat) (h : k < ds.length) : compTo ds (k + 1) = compTo ds k ++ if isComp ds[k] then [ds[k]] else [] := by
  unfold compTo
  rw [List.take_succ_eq_append_getElem h, List.filter_append, List.filter_cons, List.filter_nil]
theorem compTo_len (ds : List D) (k : Nat) : (compTo ds k).length ≤ k := by
  have := List.length_filter_le isComp (ds.take k)
  have h2 : (ds.take k).length ≤ k := by simp; omega
  unfold compTo; omega
theorem if_no {α : Type} {v : Bool} {a b : α} (h : v = false) : (if v then a else b) = b := by rw [h]; rfl
theorem if_yes {α : Type} {v : Bool} {a b : α} (h : v = true) : (if v then a else b) = a := by rw [h]; rfl
set_option maxHeartbeats 1000000 in
theorem specMaskOf_v (ds : List D) (b : Int) (A : Option Addr) (n c : Nat) (w : World) (hr : SD w w.heap.size A n c ds) {r : Int} (hm : mMaskOf ds b = r) :
    Calls Try.prog 17 #[.agg #[.slice A n c, .int .i64 b]] w fun e w' => e = .returned (.int .i64 r) ∧ Below w.heap.size w w' := by
  subst hm
  have HF := Lib.hid (FB.start hr b)
  clear hr
  cases hv : vFlag ds b
  · have HV := Lib.hid hv
    have HM : Hid (mMaskOf ds b = -1) := Lib.hid (if_no hv)
    clear hv
    go_enter Try.func17, Try.ntmps17
    go_wp2_with (go_at_call 54; refine (specVF_v ds b _ _ _ _ HF.out.sd HV.out).mono ?_; rintro e w' ⟨rfl, hb⟩)
    go_ret
    exact ⟨by rw [HM.out]; first | done | rfl, HF.out.after hb⟩
  · have HV := Lib.hid hv
    have HM : Hid (mMaskOf ds b = ((mMask ds : Nat) : Int)) := Lib.hid (if_yes hv)
    have HIN := Lib.hid (vFlag_in hv)
    clear hv
    generalize hx : mMask ds = x at HM
    have HX := Lib.hid hx
    clear hx
    go_enter Try.func17, Try.ntmps17
    go_wp2_with fail
    refine (specVF_v ds b _ _ _ _ HF.out.sd HV.out).mono ?_
    rintro e w1 ⟨rfl, hb⟩
    have HF1 := Lib.hid (HF.out.call hb)
    have c0 := HF1.out.c0
    clear hb HF
    go_wp2_with fail
    refine (mask_any ds _ _ _ _ HF1.out.sd HIN.out HX.out).mono ?_
    rintro e w2 ⟨rfl, rfl⟩
    go_wp2
    go_ret
    exact ⟨by rw [HM.out]; first | done | rfl, HF1.out.bel⟩
set_option maxHeartbeats 1000000 in
theorem specHighOf_v (ds : List D) (b : Int) (A : Option Addr) (n c : Nat) (w : World) (hr : SD w w.heap.size A n c ds) {r : Int} (hm : mHighOf ds b = r) :
    Calls Try.prog 29 #[.agg #[.slice A n c, .int .i64 b]] w fun e w' => e = .returned (.int .i64 r) ∧ Below w.heap.size w w' := by
  subst hm
  have HF := Lib.hid (FB.start hr b)
  clear hr
  cases hv : vFlag ds b
  · have HV := Lib.hid hv
    have HM : Hid (mHighOf ds b = -1) := Lib.hid (if_no hv)
    clear hv
    go_enter Try.func29, Try.ntmps29
    go_wp2_with (go_at_call 54; refine (specVF_v ds b _ _ _ _ HF.out.sd HV.out).mono ?_; rintro e w' ⟨rfl, hb⟩)
    go_ret
    exact ⟨by rw [HM.out]; first | done | rfl, HF.out.after hb⟩
  · have HV := Lib.hid hv
    have HM : Hid (mHighOf ds b = ((mHigh ds : Nat) : Int)) := Lib.hid (if_yes hv)
    have HIN := Lib.hid (vFlag_in hv)
    clear hv
    generalize hx : mHigh ds = x at HM
    have HX := Lib.hid hx
    clear hx
    go_enter Try.func29, Try.ntmps29
    go_wp2_with fail
    refine (specVF_v ds b _ _ _ _ HF.out.sd HV.out).mono ?_
    rintro e w1 ⟨rfl, hb⟩
    have HF1 := Lib.hid (HF.out.call hb)
    have c0 := HF1.out.c0
    clear hb HF
    go_wp2_with fail
    refine (high_any ds _ _ _ _ HF1.out.sd HIN.out HX.out).mono ?_
    rintro e w2 ⟨rfl, rfl⟩
    go_wp2
    go_ret
    exact ⟨by rw [HM.out]; first | done | rfl, HF1.out.bel⟩
set_option maxHeartbeats 1000000 in
theorem specLooseOf_v (ds : List D) (b : Int) (A : Option Addr) (n c : Nat) (w : World) (hr : SD w w.heap.size A n c ds) {r : Int} (hm : mLooseOf ds b = r) :
    Calls Try.prog 24 #[.agg #[.slice A n c, .int .i64 b]] w fun e w' => e = .returned (.int .i64 r) ∧ Below w.heap.size w w' := by
  subst hm
  have HF := Lib.hid (FB.start hr b)
  clear hr
  cases hv : vFlag ds b
  · have HV := Lib.hid hv
    have HM : Hid (mLooseOf ds b = -1) := Lib.hid (if_no hv)
    clear hv
    go_enter Try.func24, Try.ntmps24
    go_wp2_with (go_at_call 54; refine (specVF_v ds b _ _ _ _ HF.out.sd HV.out).mono ?_; rintro e w' ⟨rfl, hb⟩)
    go_ret
    exact ⟨by rw [HM.out]; first | done | rfl, HF.out.after hb⟩
  · have HV := Lib.hid hv
    have HM : Hid (mLooseOf ds b = ((mLoose ds : Nat) : Int)) := Lib.hid (if_yes hv)
    have HIN := Lib.hid (vFlag_in hv)
    clear hv
    generalize hx : mLoose ds = x at HM
    have HX := Lib.hid hx
    clear hx
    go_enter Try.func24, Try.ntmps24
    go_wp2_with fail
    refine (specVF_v ds b _ _ _ _ HF.out.sd HV.out).mono ?_
    rintro e w1 ⟨rfl, hb⟩
    have HF1 := Lib.hid (HF.out.call hb)
    have c0 := HF1.out.c0
    clear hb HF
    go_wp2_with fail
    refine (loose_any ds _ _ _ _ HF1.out.sd HIN.out HX.out).mono ?_
    rintro e w2 ⟨rfl, hb⟩
    go_wp2
    go_ret
    exact ⟨by rw [HM.out]; first | done | rfl, HF1.out.after hb⟩

/-! ### how values are made -/
set_option maxHeartbeats 2000000 in
theorem specMade_any (ds : List D) (b n : Int) (A : Option Addr) (m c : Nat) (w : World) (hr : SD w w.heap.size A m c ds) (hin : ∀ d ∈ ds, inR d) (hbb : 0 ≤ b ∧ b ≤ 3) (hn1 : -4096 ≤ n) (hn2 : n ≤ 4095) :
    Calls Try.prog 69 #[.agg #[.slice A m c, .int .i64 b], .int .i64 n] w fun e w' => e = .returned (.tuple #[.int .i64 (mMade ds b n).1, .int .i64 (mMade ds b n).2]) ∧ Below w.heap.size w w' := by
  have HF := Lib.hid (FB.start hr b)
  have HIN := Lib.hid hin
  have h1 := mMask_lt12 hin
  have h2 := mHigh_lt hin
  obtain ⟨hb0, hb3⟩ := hbb
  obtain ⟨md, hmd⟩ : ∃ md, mMade ds b n = md := ⟨_, rfl⟩
  rw [hmd]
  unfold mMade at hmd
  generalize hx : mMask ds = x at *
  generalize hy : mHigh ds = y at *
  have HMD := Lib.hid hmd.symm
  clear hmd
  have HX := Lib.hid hx
  have HY := Lib.hid hy
  clear hx hy hr hin
  by_cases hneg : n < 0
  · obtain ⟨k, hk⟩ : ∃ k : Nat, -n - 1 = k := ⟨(-n - 1).toNat, by omega⟩
    have hk4 : k < 4096 := by omega
    have hk' : 0 - n - 1 = (k : Int) := by omega
    by_cases h3 : b = 3
    · have HR : Hid (md = (((nl y k : Nat) : Int), 0)) := Lib.hid (by rw [HMD.out, if_pos hneg, if_pos h3, hk]; rfl)
      subst h3
      generalize hq : nl y k = q at *
      have HQ := Lib.hid hq
      clear hq HMD
      go_enter Try.func69, Try.ntmps69
      go_wp2_with (first | (go_at_call 65; refine (high_any ds _ _ _ _ HF.out.sd HIN.out HY.out).mono ?_; rintro e w' ⟨rfl, rfl⟩) | (go_at_call 75; refine (less_any y k _ h2 hk4 HQ.out).mono ?_; rintro e w' ⟨rfl, rfl⟩))
      go_ret2
      exact ⟨by rw [HR.out]; first | done | rfl, HF.out.bel⟩
    · have HR : Hid (md = (((nl x k : Nat) : Int), 0)) := Lib.hid (by rw [HMD.out, if_pos hneg, if_neg h3, hk]; rfl)
      generalize hq : nl x k = q at *
      have HQ := Lib.hid hq
      clear hq HMD
      go_enter Try.func69, Try.ntmps69
      go_wp2_with (first | (go_at_call 55; refine (mask_any ds _ _ _ _ HF.out.sd HIN.out HX.out).mono ?_; rintro e w' ⟨rfl, rfl⟩) | (go_at_call 75; refine (less_any x k _ h1 hk4 HQ.out).mono ?_; rintro e w' ⟨rfl, rfl⟩))
      go_ret2
      exact ⟨by rw [HR.out]; first | done | rfl, HF.out.bel⟩
  · obtain ⟨k, rfl⟩ : ∃ k : Nat, n = k := ⟨n.toNat, by omega⟩
    have hk4 : k < 4096 := by omega
    generalize hq : nl k x = q at *
    have HQ := Lib.hid hq
    by_cases hz : q = 0
    · have HR : Hid (md = ((k : Int), 0)) := Lib.hid (by rw [HMD.out, if_neg hneg, if_pos (by rw [Int.toNat_natCast, hq]; exact hz)])
      subst hz
      clear HMD hq
      go_enter Try.func69, Try.ntmps69
      go_wp2_with (first | (go_at_call 55; refine (mask_any ds _ _ _ _ HF.out.sd HIN.out HX.out).mono ?_; rintro e w' ⟨rfl, rfl⟩) | (go_at_call 75; refine (less_any k x _ hk4 h1 HQ.out).mono ?_; rintro e w' ⟨rfl, rfl⟩))
      go_ret2
      exact ⟨by rw [HR.out]; first | done | rfl, HF.out.bel⟩
    · have HR : Hid (md = if b = 0 then (0, 2) else if b = 1 then (((k &&& x : Nat) : Int), 0) else if b = 2 then ((k : Int), 1) else ((k : Int), 0)) := Lib.hid (by rw [HMD.out, if_neg hneg, if_neg (by rw [Int.toNat_natCast, hq]; exact hz), Int.toNat_natCast])
      clear HMD hq
      rcases (show b = 0 ∨ b = 1 ∨ b = 2 ∨ b = 3 by omega) with rfl | rfl | rfl | rfl
      · have HRR : Hid (md = (0, 2)) := Lib.hid (by rw [HR.out]; rfl)
        clear HR
        go_enter Try.func69, Try.ntmps69
        go_wp2_with (first | (go_at_call 55; refine (mask_any ds _ _ _ _ HF.out.sd HIN.out HX.out).mono ?_; rintro e w' ⟨rfl, rfl⟩) | (go_at_call 75; refine (less_any k x _ hk4 h1 HQ.out).mono ?_; rintro e w' ⟨rfl, rfl⟩))
        go_ret2
        exact ⟨by rw [HRR.out]; first | done | rfl, HF.out.bel⟩
      · have HRR : Hid (md = (((k &&& x : Nat) : Int), 0)) := Lib.hid (by rw [HR.out]; rfl)
        clear HR
        generalize hz2 : k &&& x = z at *
        have HZ2 := Lib.hid hz2
        clear hz2
        go_enter Try.func69, Try.ntmps69
        go_wp2_with (first | (go_at_call 55; refine (mask_any ds _ _ _ _ HF.out.sd HIN.out HX.out).mono ?_; rintro e w' ⟨rfl, rfl⟩) | (go_at_call 75; refine (less_any k x _ hk4 h1 HQ.out).mono ?_; rintro e w' ⟨rfl, rfl⟩) | (go_at_call 74; refine (both_v k x _ hk4 h1 HZ2.out).mono ?_; rintro e w' ⟨rfl, rfl⟩))
        go_ret2
        exact ⟨by rw [HRR.out]; first | done | rfl, HF.out.bel⟩
      · have HRR : Hid (md = ((k : Int), 1)) := Lib.hid (by rw [HR.out]; rfl)
        clear HR
        go_enter Try.func69, Try.ntmps69
        go_wp2_with (first | (go_at_call 55; refine (mask_any ds _ _ _ _ HF.out.sd HIN.out HX.out).mono ?_; rintro e w' ⟨rfl, rfl⟩) | (go_at_call 75; refine (less_any k x _ hk4 h1 HQ.out).mono ?_; rintro e w' ⟨rfl, rfl⟩))
        go_ret2
        exact ⟨by rw [HRR.out]; first | done | rfl, HF.out.bel⟩
      · have HRR : Hid (md = ((k : Int), 0)) := Lib.hid (by rw [HR.out]; rfl)
        clear HR
        go_enter Try.func69, Try.ntmps69
        go_wp2_with (first | (go_at_call 55; refine (mask_any ds _ _ _ _ HF.out.sd HIN.out HX.out).mono ?_; rintro e w' ⟨rfl, rfl⟩) | (go_at_call 75; refine (less_any k x _ hk4 h1 HQ.out).mono ?_; rintro e w' ⟨rfl, rfl⟩))
        go_ret2
        exact ⟨by rw [HRR.out]; first | done | rfl, HF.out.bel⟩
end Go.Proofs.Ytnaojafidhloeaa
