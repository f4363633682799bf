import Derived.Test.YtnaojafidhloeaaAlgP
import Derived.Test.YtnaojafidhloeaaFlagT
import Derived.Test.YtnaojafidhloeaaAppW
namespace Go.Proofs.Ytnaojafidhloeaa
open Go.RowKit Go.Maps
set_option linter.unusedVariables false
set_option maxRecDepth 100000

/-! ### an append beside another row -/
theorem run_app_Dw (X : World) (base : Nat) (t ty : TypeId) (ht : Try.prog.underlying t = some (.slice 30)) (v : Value) (n : Nat) (xs : List Value) (hown : X.ownsRow base 30 2 v n xs) (nm : ByteArray) (vl : Int) (g c : Nat)
    (hblk : X.heap[g]? = some (.cells #[.string nm, .int .i64 vl] 30 (0, 0))) (hn : n ≤ 2000000) (hbase : base ≤ X.heap.size) :
    ∃ v' w', (Builtin.append_ #[t, t] ty #[v, .slice (some ⟨g, 0, none⟩) 1 c]).run Try.prog X = .ok v' w' ∧ w'.ownsRow base 30 2 v' (n + 1) (xs ++ [.string nm, .int .i64 vl]) ∧ X.grownBy w' v.ownBlock ∧ Where X v v' := by
  obtain ⟨i0, hi, hz0, hz1, hz2⟩ := info_parts info_D
  obtain ⟨v', w', hr, h2, h3, _, h5⟩ := run_append_own_at (P := Try.prog) X base t ty _ i0 _ 2 24 ht hi hz0 hz1 hz2 rfl (by omega) v n xs hown ⟨g, 0, none⟩ 1 c [.string nm, .int .i64 vl] rfl
    (World.news_of_block hblk) (by simp [Value.oneCell']) (by unfold maxLen; omega) (by omega) hbase
  refine ⟨v', w', hr, h2, h3, fun q hq hne => ?_⟩
  rcases h5 with h5 | h5
  · rw [h5]; exact hne
  · rw [h5]; intro e; injection e with e; omega
theorem wpList_app_Dw {W : World} {ops : Array Oper} {rest : List Oper} {o : Oper} {a : Act} {Q : Exit → Act → World → Prop} (t : TypeId) (ht : Try.prog.underlying t = some (.slice 30)) (hgd : o.guard = none) (s x : Operand) (ho : o.op = .call { callee := .builtin .append, args := #[s, x], argTypes := #[t, t] })
    (base : Nat) (v : Value) (n : Nat) (xs : List Value) (hs : a.eval s = v) (hown : W.ownsRow base 30 2 v n xs) (nm : ByteArray) (vl : Int)
    (c g : Nat) (hx : a.eval x = .slice (some ⟨g, 0, none⟩) 1 c) (hgw : g = W.heap.size) (hn : n ≤ 2000000) (hbase : base ≤ W.heap.size)
    (h : ∀ v' w', w'.ownsRow base 30 2 v' (n + 1) (xs ++ [.string nm, .int .i64 vl]) → W.grownBy w' v.ownBlock → Where W v v' → wpList Try.prog ops Q rest (a.put o.dst v') w') :
    wpList Try.prog ops Q (o :: rest) a (W.alloc (.cells #[.string nm, .int .i64 vl] 30)) := by
  subst hgw
  obtain ⟨v', w', hr, h2, h3, h4⟩ := run_app_Dw _ base t o.type ht v n xs (hown.alloc (.cells #[.string nm, .int .i64 vl] 30)) nm vl W.heap.size c (heap_alloc_new W _) hn (by simp; omega)
  refine Lib.wpList_append_run _ hgd s x _ _ ho v _ hs hx v' w' hr (h v' w' h2 ((World.grownBy_alloc _ _ _).trans h3) (fun q hq hne => h4 q (by simp; omega) hne))

set_option maxHeartbeats 2000000 in
theorem twoV_v (ds : List D) (b : Int) (x y : Int) (A : Option Addr) (m c : Nat) (w : World) (hr : SD w w.heap.size A m c ds) {v : Bool} (hm : mTwo ds b x y = v) :
    Calls Try.prog 72 #[.agg #[.slice A m c, .int .i64 b], .int .i64 x, .int .i64 y] w (fun e w' => e = .returned (.bool v) ∧ Below w.heap.size w w') := by
  subst hm
  have HF := Lib.hid (FB.start hr b)
  clear hr
  cases hv : mIsV ds b x
  · have HV := Lib.hid hv
    have HM : Hid (mTwo ds b x y = false) := Lib.hid (by unfold mTwo; rw [hv]; rfl)
    clear hv
    go_enter Try.func72, Try.ntmps72
    go_wp2_with (go_at_call 77; refine (specIsV_v ds b x _ _ _ _ HF.out.sd HV.out).mono ?_; rintro e w' ⟨rfl, hb⟩)
    go_ret
    exact ⟨by rw [HM.out]; first | done | rfl, HF.out.after hb⟩
  · obtain ⟨u, hy⟩ : ∃ u, mIsV ds b y = u := ⟨_, rfl⟩
    have HM : Hid (mTwo ds b x y = u) := Lib.hid (by unfold mTwo; rw [hv, hy]; rfl)
    have HV := Lib.hid hv
    have HY := Lib.hid hy
    clear hv hy
    go_enter Try.func72, Try.ntmps72
    go_wp2_with fail
    refine (specIsV_v ds b x _ _ _ _ HF.out.sd HV.out).mono ?_
    rintro e w1 ⟨rfl, hb⟩
    have HF1 := Lib.hid (HF.out.call hb)
    have c0 := HF1.out.c0
    have c1 := HF1.out.c1
    clear hb HF
    go_wp2_with fail
    refine (specIsV_v ds b y _ _ _ _ HF1.out.sd HY.out).mono ?_
    rintro e w2 ⟨rfl, hb⟩
    have HB2 := Lib.hid (HF1.out.after hb)
    clear hb
    go_wp2
    go_ret
    exact ⟨by rw [HM.out]; first | done | rfl, HB2.out⟩

set_option maxHeartbeats 2000000 in
theorem specOr_v (ds : List D) (b : Int) (x y : Int) (A : Option Addr) (m c : Nat) (w : World) (hr : SD w w.heap.size A m c ds) {r : Int} (hm : mOp orN ds b x y = r) :
    Calls Try.prog 36 #[.agg #[.slice A m c, .int .i64 b], .int .i64 x, .int .i64 y] w (fun e w' => e = .returned (.int .i64 r) ∧ Below w.heap.size w w') := by
  subst hm
  have HF := Lib.hid (FB.start hr b)
  clear hr
  cases hv : mTwo ds b x y
  · have HV := Lib.hid hv
    have HM : Hid (mOp orN ds b x y = -1) := Lib.hid (if_no hv)
    clear hv
    go_enter Try.func36, Try.ntmps36
    go_wp2_with (go_at_call 72; refine (twoV_v ds b x y _ _ _ _ HF.out.sd HV.out).mono ?_; rintro e w' ⟨rfl, hb⟩)
    go_ret
    exact ⟨by rw [HM.out]; first | done | rfl, HF.out.after hb⟩
  · obtain ⟨p, rfl, hp⟩ := mIsV_nat (mTwo_1 hv)
    obtain ⟨q, rfl, hq⟩ := mIsV_nat (mTwo_2 hv)
    have HV := Lib.hid hv
    obtain ⟨r, hr⟩ : ∃ r, orN p q = r := ⟨_, rfl⟩
    have HM : Hid (mOp orN ds b p q = (r : Int)) := Lib.hid (by unfold mOp; rw [hv, if_pos rfl, Int.toNat_natCast, Int.toNat_natCast, hr])
    have HR := Lib.hid hr
    clear hv hr
    go_enter Try.func36, Try.ntmps36
    go_wp2_with fail
    refine (twoV_v ds b p q _ _ _ _ HF.out.sd HV.out).mono ?_
    rintro e w1 ⟨rfl, hb⟩
    have HB1 := Lib.hid (HF.out.after hb)
    clear hb
    go_wp2_with fail
    refine (either_any p q _ hp hq HR.out).mono ?_
    rintro e w2 ⟨rfl, rfl⟩
    go_wp2
    go_ret
    exact ⟨by rw [HM.out]; first | done | rfl, HB1.out⟩

set_option maxHeartbeats 2000000 in
theorem specAnd_v (ds : List D) (b : Int) (x y : Int) (A : Option Addr) (m c : Nat) (w : World) (hr : SD w w.heap.size A m c ds) {r : Int} (hm : mOp andN ds b x y = r) :
    Calls Try.prog 40 #[.agg #[.slice A m c, .int .i64 b], .int .i64 x, .int .i64 y] w (fun e w' => e = .returned (.int .i64 r) ∧ Below w.heap.size w w') := by
  subst hm
  have HF := Lib.hid (FB.start hr b)
  clear hr
  cases hv : mTwo ds b x y
  · have HV := Lib.hid hv
    have HM : Hid (mOp andN ds b x y = -1) := Lib.hid (if_no hv)
    clear hv
    go_enter Try.func40, Try.ntmps40
    go_wp2_with (go_at_call 72; refine (twoV_v ds b x y _ _ _ _ HF.out.sd HV.out).mono ?_; rintro e w' ⟨rfl, hb⟩)
    go_ret
    exact ⟨by rw [HM.out]; first | done | rfl, HF.out.after hb⟩
  · obtain ⟨p, rfl, hp⟩ := mIsV_nat (mTwo_1 hv)
    obtain ⟨q, rfl, hq⟩ := mIsV_nat (mTwo_2 hv)
    have HV := Lib.hid hv
    obtain ⟨r, hr⟩ : ∃ r, andN p q = r := ⟨_, rfl⟩
    have HM : Hid (mOp andN ds b p q = (r : Int)) := Lib.hid (by unfold mOp; rw [hv, if_pos rfl, Int.toNat_natCast, Int.toNat_natCast, hr])
    have HR := Lib.hid hr
    clear hv hr
    go_enter Try.func40, Try.ntmps40
    go_wp2_with fail
    refine (twoV_v ds b p q _ _ _ _ HF.out.sd HV.out).mono ?_
    rintro e w1 ⟨rfl, hb⟩
    have HB1 := Lib.hid (HF.out.after hb)
    clear hb
    go_wp2_with fail
    refine (both_v p q _ hp hq HR.out).mono ?_
    rintro e w2 ⟨rfl, rfl⟩
    go_wp2
    go_ret
    exact ⟨by rw [HM.out]; first | done | rfl, HB1.out⟩

set_option maxHeartbeats 2000000 in
theorem specLess_v (ds : List D) (b : Int) (x y : Int) (A : Option Addr) (m c : Nat) (w : World) (hr : SD w w.heap.size A m c ds) {r : Int} (hm : mOp nl ds b x y = r) :
    Calls Try.prog 45 #[.agg #[.slice A m c, .int .i64 b], .int .i64 x, .int .i64 y] w (fun e w' => e = .returned (.int .i64 r) ∧ Below w.heap.size w w') := by
  subst hm
  have HF := Lib.hid (FB.start hr b)
  clear hr
  cases hv : mTwo ds b x y
  · have HV := Lib.hid hv
    have HM : Hid (mOp nl ds b x y = -1) := Lib.hid (if_no hv)
    clear hv
    go_enter Try.func45, Try.ntmps45
    go_wp2_with (go_at_call 72; refine (twoV_v ds b x y _ _ _ _ HF.out.sd HV.out).mono ?_; rintro e w' ⟨rfl, hb⟩)
    go_ret
    exact ⟨by rw [HM.out]; first | done | rfl, HF.out.after hb⟩
  · obtain ⟨p, rfl, hp⟩ := mIsV_nat (mTwo_1 hv)
    obtain ⟨q, rfl, hq⟩ := mIsV_nat (mTwo_2 hv)
    have HV := Lib.hid hv
    obtain ⟨r, hr⟩ : ∃ r, nl p q = r := ⟨_, rfl⟩
    have HM : Hid (mOp nl ds b p q = (r : Int)) := Lib.hid (by unfold mOp; rw [hv, if_pos rfl, Int.toNat_natCast, Int.toNat_natCast, hr])
    have HR := Lib.hid hr
    clear hv hr
    go_enter Try.func45, Try.ntmps45
    go_wp2_with fail
    refine (twoV_v ds b p q _ _ _ _ HF.out.sd HV.out).mono ?_
    rintro e w1 ⟨rfl, hb⟩
    have HB1 := Lib.hid (HF.out.after hb)
    clear hb
    go_wp2_with fail
    refine (less_any p q _ hp hq HR.out).mono ?_
    rintro e w2 ⟨rfl, rfl⟩
    go_wp2
    go_ret
    exact ⟨by rw [HM.out]; first | done | rfl, HB1.out⟩

set_option maxHeartbeats 2000000 in
theorem specXor_v (ds : List D) (b : Int) (x y : Int) (A : Option Addr) (m c : Nat) (w : World) (hr : SD w w.heap.size A m c ds) {r : Int} (hm : mOp xorN ds b x y = r) :
    Calls Try.prog 43 #[.agg #[.slice A m c, .int .i64 b], .int .i64 x, .int .i64 y] w (fun e w' => e = .returned (.int .i64 r) ∧ Below w.heap.size w w') := by
  subst hm
  have HF := Lib.hid (FB.start hr b)
  clear hr
  cases hv : mTwo ds b x y
  · have HV := Lib.hid hv
    have HM : Hid (mOp xorN ds b x y = -1) := Lib.hid (if_no hv)
    clear hv
    go_enter Try.func43, Try.ntmps43
    go_wp2_with (go_at_call 72; refine (twoV_v ds b x y _ _ _ _ HF.out.sd HV.out).mono ?_; rintro e w' ⟨rfl, hb⟩)
    go_ret
    exact ⟨by rw [HM.out]; first | done | rfl, HF.out.after hb⟩
  · obtain ⟨p, rfl, hp⟩ := mIsV_nat (mTwo_1 hv)
    obtain ⟨q, rfl, hq⟩ := mIsV_nat (mTwo_2 hv)
    have HV := Lib.hid hv
    obtain ⟨r, hr⟩ : ∃ r, xorN p q = r := ⟨_, rfl⟩
    have HM : Hid (mOp xorN ds b p q = (r : Int)) := Lib.hid (by unfold mOp; rw [hv, if_pos rfl, Int.toNat_natCast, Int.toNat_natCast, hr])
    obtain ⟨z, hz⟩ : ∃ z, p &&& q = z := ⟨_, rfl⟩
    have hz4 : z < 4096 := by rw [← hz]; exact and_lt hp
    rw [show (r : Int) = (p : Int) + (q : Int) - 2 * (z : Int) from by have := xor_sub p q; unfold xorN at hr; omega] at HM
    have HZ := Lib.hid hz
    clear hz
    clear hv hr
    go_enter Try.func43, Try.ntmps43
    go_wp2_with fail
    refine (twoV_v ds b p q _ _ _ _ HF.out.sd HV.out).mono ?_
    rintro e w1 ⟨rfl, hb⟩
    have HB1 := Lib.hid (HF.out.after hb)
    clear hb
    go_wp2_with fail
    refine (both_v p q _ hp hq HZ.out).mono ?_
    rintro e w2 ⟨rfl, rfl⟩
    go_wp2
    go_ret
    exact ⟨by rw [HM.out]; first | done | rfl, HB1.out⟩

set_option maxHeartbeats 2000000 in
theorem specInv_v (ds : List D) (b : Int) (x : Int) (A : Option Addr) (m c : Nat) (w : World) (hr : SD w w.heap.size A m c ds) {r : Int} (hm : mInv ds b x = r) :
    Calls Try.prog 47 #[.agg #[.slice A m c, .int .i64 b], .int .i64 x] w (fun e w' => e = .returned (.int .i64 r) ∧ Below w.heap.size w w') := by
  subst hm
  have HF := Lib.hid (FB.start hr b)
  clear hr
  cases hv : mIsV ds b x
  · have HV := Lib.hid hv
    have HM : Hid (mInv ds b x = -1) := Lib.hid (if_no hv)
    clear hv
    go_enter Try.func47, Try.ntmps47
    go_wp2_with (go_at_call 77; refine (specIsV_v ds b x _ _ _ _ HF.out.sd HV.out).mono ?_; rintro e w' ⟨rfl, hb⟩)
    go_ret
    exact ⟨by rw [HM.out]; first | done | rfl, HF.out.after hb⟩
  · obtain ⟨p, rfl, hp⟩ := mIsV_nat hv
    have HV := Lib.hid hv
    have hin := vFlag_in (mIsV_flag hv)
    have hwl := mWhole_lt (b := b) hin
    obtain ⟨wh, hwh⟩ : ∃ wh, mWhole ds b = wh := ⟨_, rfl⟩
    rw [hwh] at hwl
    obtain ⟨r, hr⟩ : ∃ r, nl wh p = r := ⟨_, rfl⟩
    have HM : Hid (mInv ds b p = (r : Int)) := Lib.hid (by unfold mInv; rw [hv, if_pos rfl, Int.toNat_natCast, hwh, hr])
    have HIN := Lib.hid hin
    have HR := Lib.hid hr
    clear hv hr hin
    by_cases h3 : b = 3
    · subst h3
      have HH : Hid (mHigh ds = wh) := Lib.hid hwh
      clear hwh
      go_enter Try.func47, Try.ntmps47
      go_wp2_with (first | (go_at_call 77; refine (specIsV_v ds 3 p _ _ _ _ HF.out.sd HV.out).mono ?_; rintro e w1 ⟨rfl, hb⟩; have HF1 := Lib.hid (HF.out.call hb); have c0 := HF1.out.c0; have c1 := HF1.out.c1; clear hb) | (go_at_call 65; refine (high_any ds _ _ _ _ HF1.out.sd HIN.out HH.out).mono ?_; rintro e w2 ⟨rfl, rfl⟩) | (go_at_call 75; refine (less_any wh p _ hwl hp HR.out).mono ?_; rintro e w3 ⟨rfl, rfl⟩))
      go_ret
      exact ⟨by rw [HM.out]; first | done | rfl, HF1.out.bel⟩
    · have HH : Hid (mMask ds = wh) := Lib.hid (by unfold mWhole at hwh; rwa [if_neg h3] at hwh)
      have h3' : (b == 3) = false := beq_eq_false_iff_ne.2 h3
      clear hwh h3
      go_enter Try.func47, Try.ntmps47
      go_wp2_with (first | (go_at_call 77; refine (specIsV_v ds b p _ _ _ _ HF.out.sd HV.out).mono ?_; rintro e w1 ⟨rfl, hb⟩; have HF1 := Lib.hid (HF.out.call hb); have c0 := HF1.out.c0; have c1 := HF1.out.c1; clear hb) | (go_at_call 55; refine (mask_any ds _ _ _ _ HF1.out.sd HIN.out HH.out).mono ?_; rintro e w2 ⟨rfl, rfl⟩) | (go_at_call 75; refine (less_any wh p _ hwl hp HR.out).mono ?_; rintro e w3 ⟨rfl, rfl⟩))
      go_ret
      exact ⟨by rw [HM.out]; first | done | rfl, HF1.out.bel⟩

set_option maxHeartbeats 2000000 in
theorem specHas_v (ds : List D) (b : Int) (x y : Int) (A : Option Addr) (m c : Nat) (w : World) (hr : SD w w.heap.size A m c ds) {v : Bool} (hm : mHas ds b x y = v) :
    Calls Try.prog 49 #[.agg #[.slice A m c, .int .i64 b], .int .i64 x, .int .i64 y] w (fun e w' => e = .returned (.bool v) ∧ Below w.heap.size w w') := by
  subst hm
  have HF := Lib.hid (FB.start hr b)
  clear hr
  cases hv : mTwo ds b x y
  · have HV := Lib.hid hv
    have HM : Hid (mHas ds b x y = false) := Lib.hid (by unfold mHas; rw [hv]; rfl)
    clear hv
    go_enter Try.func49, Try.ntmps49
    go_wp2_with (go_at_call 72; refine (twoV_v ds b x y _ _ _ _ HF.out.sd HV.out).mono ?_; rintro e w' ⟨rfl, hb⟩)
    go_ret
    exact ⟨by rw [HM.out]; first | done | rfl, HF.out.after hb⟩
  · obtain ⟨p, rfl, hp⟩ := mIsV_nat (mTwo_1 hv)
    obtain ⟨q, rfl, hq⟩ := mIsV_nat (mTwo_2 hv)
    have HV := Lib.hid hv
    obtain ⟨r, hr⟩ : ∃ r, nl q p = r := ⟨_, rfl⟩
    have HM : Hid (mHas ds b p q = decide (r = 0)) := Lib.hid (by unfold mHas; rw [hv, Bool.true_and, Int.toNat_natCast, Int.toNat_natCast, hr])
    have HR := Lib.hid hr
    clear hv hr
    go_enter Try.func49, Try.ntmps49
    go_wp2_with (first | (go_at_call 72; refine (twoV_v ds b p q _ _ _ _ HF.out.sd HV.out).mono ?_; rintro e w1 ⟨rfl, hb⟩; have HB1 := Lib.hid (HF.out.after hb); clear hb) | (go_at_call 75; refine (less_any q p _ hq hp HR.out).mono ?_; rintro e w2 ⟨rfl, rfl⟩))
    go_ret
    exact ⟨by rw [HM.out]; exact ret_bool (by rw [Bool.eq_iff_iff]; simp), HB1.out⟩

end Go.Proofs.Ytnaojafidhloeaa
