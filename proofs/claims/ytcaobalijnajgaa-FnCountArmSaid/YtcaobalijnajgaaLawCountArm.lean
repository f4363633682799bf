/-
For every code the law of values that an arm takes, halved by one bit more, returns true.
Conditions: none.
-/
import Derived.Test.YtcaobalijnajgaaGenY
import Derived.Test.YtcaobalijnajgaaOpenC
import Derived.Test.YtcaobalijnajgaaLFlag
import Derived.Test.YtcaobalijnajgaaLArm
import Derived.Test.YtcaobalijnajgaaAlgS
import Derived.Test.YtcaobalijnajgaaAlgI
import Derived.Test.YtcaobalijnajgaaArmS
import Derived.Test.YtcaobalijnajgaaArmJ
import Derived.Test.YtcaobalijnajgaaArmU
import Derived.Test.YtcaobalijnajgaaLKept
namespace Go.Proofs.Ytcaobalijnajgaa.fnCountArm
open Go.ChangeShapes Go.WideShapes Go.ChangeAt Go.RowKit
open Go.ChangeMaps (open_string shut_string)
set_option linter.unusedVariables false
set_option maxRecDepth 100000

theorem popc_lt2 (k : Nat) : ∀ n, n < 2 ^ k → popc n ≤ k := by
  induction k with
  | zero => intro n h; have := popc_le n; have e : (2 : Nat) ^ 0 = 1 := rfl; omega
  | succ k ih =>
    intro n h
    by_cases h0 : n = 0
    · subst h0; have := popc_le 0; omega
    · rw [popc_pos (by omega)]
      have h1 := ih (n / 2) (by rw [Nat.pow_succ] at h; omega)
      have : n % 2 < 2 := Nat.mod_lt _ (by decide)
      omega
theorem popc_le12 {n : Nat} (h : n < 4096) : popc n ≤ 12 := popc_lt2 12 n h

set_option maxHeartbeats 16000000 in
theorem walk (A : Option Addr) (n c : Nat) (zs : List Int) (w : World) (h : SB w w.heap.size A n c zs) :
    Calls Try.prog 8 #[.slice A n c] w fun e w' => e = .returned (.bool true) ∧ Below w.heap.size w w' := by
  have hm := h.max
  have hcap := h.cap
  unfold maxLen at hm
  have HS0 := Lib.hid h
  clear h
  by_cases hbig : 1048576 < (n : Int)
  · go_enter Try.func8, Try.ntmps8
    go_wp2
    go_ret
    exact ⟨rfl, Below.refl _ _⟩
  go_enter Try.func8, Try.ntmps8
  go_wp2_with fail
  refine (drawCountArm_any A n c zs _ HS0.out).mono ?_
  rintro e w1 ⟨Aa, ca, dsa, ba, x1, y1, rfl, hna, hsma, hbda, hx1, hy1, hsa, hb⟩
  have HB_1 := Lib.hid hb
  have Sa_1 := Lib.hid hsa
  have HSMa := Lib.hid hsma
  have HOKa : Hid (∀ d ∈ dsa, d.ok) := Lib.hid (fun d hd => small_ok (hsma d hd))
  have HBDa := Lib.hid hbda
  have I11 : I64 x1 := by unfold I64; omega
  have I12 : I64 y1 := by unfold I64; omega
  clear hb hsa hsma hbda
  obtain ⟨w2, hw⟩ : ∃ W : World, W = ((w1.alloc (.cells #[.slice Aa dsa.length ca, .int .i64 ba] 25)).alloc (.cells #[.int .i64 x1, .int .i64 y1] 27)) := ⟨_, rfl⟩
  have hb : Below w1.heap.size w1 w2 := by rw [hw]; exact (((Below.refl _ _).alloc (by first | exact Nat.le_refl _ | (simp; done) | (simp; omega)) _).alloc (by first | exact Nat.le_refl _ | (simp; done) | (simp; omega)) _)
  have Sa_2 := Lib.hid ((Sa_1.out.below hb).call hb.size)
  have HB_2 : Hid (Below w.heap.size w w2) := Lib.hid (HB_1.out.trans (hb.mono HB_1.out.size))
  have ba_2 : w2.cell? ⟨w1.heap.size, 0, none⟩ = some (.slice Aa dsa.length ca) := by rw [hw]; simp [go_sem]
  have va_2 : w2.cell? ⟨w1.heap.size, 1, none⟩ = some (.int .i64 ba) := by rw [hw]; simp [go_sem]
  have p1_2 : w2.cell? ⟨w1.heap.size + 1, 0, none⟩ = some (.int .i64 x1) := by rw [hw]; simp [go_sem]
  have q1_2 : w2.cell? ⟨w1.heap.size + 1, 1, none⟩ = some (.int .i64 y1) := by rw [hw]; simp [go_sem]
  have lf_ba : ((w1.alloc (.cells #[.slice Aa dsa.length ca, .int .i64 ba] 25)).alloc (.cells #[.int .i64 x1, .int .i64 y1] 27)).cell? ⟨w1.heap.size, 0, none⟩ = some (.slice Aa dsa.length ca) := by rw [← hw]; exact ba_2
  have lf_va : ((w1.alloc (.cells #[.slice Aa dsa.length ca, .int .i64 ba] 25)).alloc (.cells #[.int .i64 x1, .int .i64 y1] 27)).cell? ⟨w1.heap.size, 1, none⟩ = some (.int .i64 ba) := by rw [← hw]; exact va_2
  have lf_p1 : ((w1.alloc (.cells #[.slice Aa dsa.length ca, .int .i64 ba] 25)).alloc (.cells #[.int .i64 x1, .int .i64 y1] 27)).cell? ⟨w1.heap.size + 1, 0, none⟩ = some (.int .i64 x1) := by rw [← hw]; exact p1_2
  have lf_q1 : ((w1.alloc (.cells #[.slice Aa dsa.length ca, .int .i64 ba] 25)).alloc (.cells #[.int .i64 x1, .int .i64 y1] 27)).cell? ⟨w1.heap.size + 1, 1, none⟩ = some (.int .i64 y1) := by rw [← hw]; exact q1_2
  have HW2 : Hid (((w1.alloc (.cells #[.slice Aa dsa.length ca, .int .i64 ba] 25)).alloc (.cells #[.int .i64 x1, .int .i64 y1] 27)) = w2) := Lib.hid hw.symm
  clear hb hw Sa_1 HB_1
  obtain ⟨r, hr⟩ : ∃ r, mCountA dsa ba ⟨x1, y1⟩ = r := ⟨_, rfl⟩
  have HR := Lib.hid hr
  clear hr
  go_wp2_with fail
  rw [HW2.out]
  clear lf_ba lf_va lf_p1 lf_q1
  refine (implCountA_v dsa ba x1 y1 _ _ _ _ Sa_2.out (by omega) I11 I12 HR.out).mono ?_
  rintro e w3 ⟨rfl, hb⟩
  have ba_3 := keep1 hb ba_2
  have va_3 := keep1 hb va_2
  have p1_3 := keep1 hb p1_2
  have q1_3 := keep1 hb q1_2
  have Sa_3 := Lib.hid ((Sa_2.out.below hb).call hb.size)
  have HB_3 : Hid (Below w.heap.size w w3) := Lib.hid (HB_2.out.trans (hb.mono HB_2.out.size))
  clear hb  ba_2 va_2 p1_2 q1_2 Sa_2 HB_2
  go_wp2_with fail
  refine (specCountA_v dsa ba x1 y1 _ _ _ _ Sa_3.out HR.out).mono ?_
  rintro e w4 ⟨rfl, hb⟩
  have ba_4 := keep1 hb ba_3
  have va_4 := keep1 hb va_3
  have p1_4 := keep1 hb p1_3
  have q1_4 := keep1 hb q1_3
  have Sa_4 := Lib.hid ((Sa_3.out.below hb).call hb.size)
  have HB_4 : Hid (Below w.heap.size w w4) := Lib.hid (HB_3.out.trans (hb.mono HB_3.out.size))
  clear hb  ba_3 va_3 p1_3 q1_3 Sa_3 HB_3
  by_cases h0 : r < 0
  · skip
    go_wp2_with fail
    refine (specCountA_v dsa ba x1 y1 _ _ _ _ Sa_4.out HR.out).mono ?_
    rintro e w5 ⟨rfl, hb⟩
    have ba_5 := keep1 hb ba_4
    have va_5 := keep1 hb va_4
    have p1_5 := keep1 hb p1_4
    have q1_5 := keep1 hb q1_4
    have Sa_5 := Lib.hid ((Sa_4.out.below hb).call hb.size)
    have HB_5 : Hid (Below w.heap.size w w5) := Lib.hid (HB_4.out.trans (hb.mono HB_4.out.size))
    clear hb  ba_4 va_4 p1_4 q1_4 Sa_4 HB_4
    go_wp2
    go_ret
    exact ⟨rfl, HB_5.out⟩
  have hva : mArm dsa ba ⟨x1, y1⟩ = true := by
    cases h : mArm dsa ba ⟨x1, y1⟩
    · exact absurd (by rw [← HR.out]; unfold mCountA; rw [h, if_neg (by decide)]; decide) h0
    · rfl
  have HVA := Lib.hid hva
  clear hva
  obtain ⟨p, q, rfl, rfl, hp, hq, bp, bq, dp, HFLp⟩ := arm_nat HVA.out
  obtain ⟨m, qm⟩ : ∃ m, mMask dsa = m := ⟨_, rfl⟩
  have hm : m < 4096 := by rw [← qm]; exact mMask_lt12 (vFlag_in HFLp)
  have HVm : Hid (mIsV dsa ba (m : Nat) = true) := Lib.hid (by rw [← qm]; exact v_mask HFLp)
  have HMK : Hid (mMaskOf dsa ba = (m : Int)) := Lib.hid (by rw [← qm]; exact if_yes HFLp)
  have HVp : Hid (mIsV dsa ba (p : Nat) = true) := Lib.hid (v_part HFLp bp)
  have HVq : Hid (mIsV dsa ba (q : Nat) = true) := Lib.hid (v_part HFLp bq)
  obtain ⟨o, qo⟩ : ∃ o, p ||| q = o := ⟨_, rfl⟩
  have ho : o < 4096 := by rw [← qo]; exact or_lt hp hq
  have HVo : Hid (mIsV dsa ba (o : Nat) = true) := Lib.hid (by rw [← qo]; exact v_or HVp.out HVq.out)
  have hsum : p + q = o := by rw [← qo]; exact add_is_or dp
  have hwo : IntKind.i64.wrap ((p : Int) + (q : Int)) = (o : Int) := by rw [IntKind.wrap_i64]; omega
  rw [qm] at bp bq
  obtain ⟨l, ql⟩ : ∃ l, nl m o = l := ⟨_, rfl⟩
  have hl : l < 4096 := by rw [← ql]; exact nl_lt hm
  have HVl : Hid (mIsV dsa ba (l : Nat) = true) := Lib.hid (by rw [← ql]; exact v_nl HVm.out (q := o))
  have H1 : Hid (mOp nl dsa ba (m : Nat) (o : Nat) = (l : Int)) := Lib.hid (op_is HVm.out HVo.out (by exact ql))
  have hrc : r = ((2 ^ popc l : Nat) : Int) := by rw [← HR.out]; exact count_is HVA.out (by rw [qm, qo, ql])
  have HRC := Lib.hid hrc
  have HFL := Lib.hid HFLp
  have HM := Lib.hid (show mMask dsa = m from qm)
  have QO := Lib.hid qo
  have QL := Lib.hid ql
  have BP := Lib.hid bp
  have BQ := Lib.hid bq
  have DP := Lib.hid dp
  clear hrc hsum bp bq dp HFLp qo
  clear qm ql
  go_wp2_with fail
  go_region_held3 (fun w' => w'.cell? ⟨w1.heap.size, 0, none⟩ = some (.slice Aa dsa.length ca) ∧ w'.cell? ⟨w1.heap.size, 1, none⟩ = some (.int .i64 ba) ∧ w'.cell? ⟨w1.heap.size + 1, 0, none⟩ = some (.int .i64 p) ∧ w'.cell? ⟨w1.heap.size + 1, 1, none⟩ = some (.int .i64 q))
    (first | go_keep | exact ⟨ba_4, va_4, p1_4, q1_4⟩ | exact ⟨ba_5, va_5, p1_5, q1_5⟩ | exact ⟨ba_6, va_6, p1_6, q1_6⟩)
    (first
      | (go_at_call 19; refine (implMaskOf_v dsa ba _ _ _ _ (Sa_4.out.drewN 1) (by omega) HMK.out).mono ?_; rintro e w5 ⟨rfl, hb⟩; replace hb : Below w4.heap.size w4 w5 := (by first | exact hb | exact undrew hb); have ba_5 := keep1 hb ba_4; have va_5 := keep1 hb va_4; have p1_5 := keep1 hb p1_4; have q1_5 := keep1 hb q1_4; have Sa_5 := Lib.hid ((Sa_4.out.below hb).call hb.size); have HB_5 : Hid (Below w.heap.size w w5) := Lib.hid (HB_4.out.trans (hb.mono HB_4.out.size)); clear hb)
      | (go_at_call 18; refine (implLess_v dsa ba m o _ _ _ _ Sa_5.out (by omega) H1.out).mono ?_; rintro e w6 ⟨rfl, hb⟩; have ba_6 := keep1 hb ba_5; have va_6 := keep1 hb va_5; have p1_6 := keep1 hb p1_5; have q1_6 := keep1 hb q1_5; have Sa_6 := Lib.hid ((Sa_5.out.below hb).call hb.size); have HB_6 : Hid (Below w.heap.size w w6) := Lib.hid (HB_5.out.trans (hb.mono HB_5.out.size)); clear hb))
  by_cases hz : l = 0
  · subst hz
    have e0 : r = 1 := by rw [HRC.out, show popc 0 = 0 by have := popc_le 0; omega]; rfl
    clear h0
    subst e0
    go_wp2
    go_ret
    exact ⟨rfl, HB_6.out⟩
  have e0 : ((l : Int) == 0) = false := by rw [beq_eq_false_iff_ne]; omega
  obtain ⟨j, hj, hjb, hjl⟩ := least_bit hz hl
  have HJB := Lib.hid hjb
  have HJL := Lib.hid hjl
  have hFL3 := vFlag_3 HFL.out
  have HVl3 : Hid (mIsV dsa 3 (l : Nat) = true) := Lib.hid (mIsV_of hFL3 hl (.inl rfl))
  have HH : Hid (∀ k, k < 12 → mHas dsa 3 (l : Nat) ((2 ^ k : Nat) : Int) = l.testBit k) := Lib.hid (fun k hk => by
    have h2 : 2 ^ k < 4096 := Nat.pow_lt_pow_right (by decide) (show k < 12 from hk)
    rw [has_is HVl3.out (mIsV_of hFL3 h2 (.inl rfl)) rfl]
    cases hb : l.testBit k
    · rw [decide_eq_false_iff_not, nl_zero]
      intro h
      have := h k (by rw [pow_tb]; simp)
      rw [hb] at this; cases this
    · rw [decide_eq_true_eq, nl_zero]
      intro i hi
      rw [pow_tb] at hi
      have hi : k = i := by simpa using hi
      rw [← hi]; exact hb)
  clear hjb hjl hFL3 hz
  go_wp2_with fail
  go_loopw [7] (fun i wr => ∃ (k b : Nat), k ≤ j ∧ 1 ≤ b ∧ b ≤ 2048 ∧ i = .int .i64 b ∧ Hid (2 ^ k = b) ∧ Hid (Below w.heap.size w wr) ∧ Hid (wr.cell? ⟨w1.heap.size, 0, none⟩ = some (.slice Aa dsa.length ca)) ∧ Hid (wr.cell? ⟨w1.heap.size, 1, none⟩ = some (.int .i64 ba)) ∧ Hid (wr.cell? ⟨w1.heap.size + 1, 0, none⟩ = some (.int .i64 p)) ∧ Hid (wr.cell? ⟨w1.heap.size + 1, 1, none⟩ = some (.int .i64 q)) ∧ Hid (SD wr wr.heap.size Aa dsa.length ca dsa)) (fun i _ => 4096 - (intOf i).toNat)
  case atStart => exact ⟨0, 1, Nat.zero_le _, by omega, by omega, rfl, Lib.hid rfl, HB_6, Lib.hid ba_6, Lib.hid va_6, Lib.hid p1_6, Lib.hid q1_6, Sa_6⟩
  case round =>
    obtain ⟨k, b, hk, hb1, hb2, rfl, hbk, hbel, hc1, hc2, hc3, hc4, hsa⟩ := hrel
    clear ba_6 va_6 p1_6 q1_6 HB_6 Sa_6
    have y1 := hc1.out
    have y2 := hc2.out
    have y3 := hc3.out
    have y4 := hc4.out
    clear hc1 hc2 hc3 hc4
    have hHk := HH.out k (by omega)
    rw [hbk.out] at hHk
    obtain ⟨w40, hwn⟩ : ∃ W : World, W = wr := ⟨_, rfl⟩
    subst hwn
    have HB_40 := hbel
    have ba_40 := y1
    have va_40 := y2
    have p1_40 := y3
    have q1_40 := y4
    have Sa_40 := hsa
    clear hbel y1 y2 y3 y4 hsa
    by_cases hkj : k < j
    · skip
      rw [HJL.out k hkj] at hHk
      have HHk := Lib.hid hHk
      clear hHk
      have hb3 : b ≤ 1024 := by rw [← hbk.out]; exact Nat.pow_le_pow_right (n := 2) (by decide) (show k ≤ 10 by omega)
      have HB2 : Hid (2 ^ (k + 1) = 2 * b) := Lib.hid (by rw [Nat.pow_succ, hbk.out, Nat.mul_comm])
      go_wp2_with fail
      refine (kept_any dsa ba _ _ _ _ Sa_40.out (by omega) HFL.out).mono ?_
      rintro e w41 ⟨Ak, ck, rfl, ho2, hb⟩
      have ba_41 := keep1 hb ba_40
      have va_41 := keep1 hb va_40
      have p1_41 := keep1 hb p1_40
      have q1_41 := keep1 hb q1_40
      have Sa_41 := Lib.hid ((Sa_40.out.below hb).call hb.size)
      have HB_41 : Hid (Below w.heap.size w w41) := Lib.hid (HB_40.out.trans (hb.mono HB_40.out.size))
      have Sk_41 := Lib.hid (sd_of_own ho2 HOKa.out)
      clear ho2
      clear hb  ba_40 va_40 p1_40 q1_40 Sa_40 HB_40
      go_wp2_with fail
      refine (implHas_v dsa 3 l b _ _ _ _ Sk_41.out (by omega) HHk.out).mono ?_
      rintro e w42 ⟨rfl, hb⟩
      have ba_42 := keep1 hb ba_41
      have va_42 := keep1 hb va_41
      have p1_42 := keep1 hb p1_41
      have q1_42 := keep1 hb q1_41
      have Sa_42 := Lib.hid ((Sa_41.out.below hb).call hb.size)
      have Sk_42 := Lib.hid ((Sk_41.out.below hb).call hb.size)
      have HB_42 : Hid (Below w.heap.size w w42) := Lib.hid (HB_41.out.trans (hb.mono HB_41.out.size))
      clear hb  ba_41 va_41 p1_41 q1_41 Sa_41 Sk_41 HB_41
      go_wp2
      go_roundw
      case rel => exact ⟨k + 1, 2 * b, by omega, by omega, by omega, by go_num, HB2, HB_42, Lib.hid ba_42, Lib.hid va_42, Lib.hid p1_42, Lib.hid q1_42, Sa_42⟩
      case measure => simp [intOf]; omega
    obtain rfl : k = j := by omega
    rw [HJB.out] at hHk
    have HHk := Lib.hid hHk
    clear hHk hkj
    go_wp2_with fail
    refine (kept_any dsa ba _ _ _ _ Sa_40.out (by omega) HFL.out).mono ?_
    rintro e w41 ⟨Ak, ck, rfl, ho2, hb⟩
    have ba_41 := keep1 hb ba_40
    have va_41 := keep1 hb va_40
    have p1_41 := keep1 hb p1_40
    have q1_41 := keep1 hb q1_40
    have Sa_41 := Lib.hid ((Sa_40.out.below hb).call hb.size)
    have HB_41 : Hid (Below w.heap.size w w41) := Lib.hid (HB_40.out.trans (hb.mono HB_40.out.size))
    have Sk_41 := Lib.hid (sd_of_own ho2 HOKa.out)
    clear ho2
    clear hb  ba_40 va_40 p1_40 q1_40 Sa_40 HB_40
    go_wp2_with fail
    refine (implHas_v dsa 3 l b _ _ _ _ Sk_41.out (by omega) HHk.out).mono ?_
    rintro e w42 ⟨rfl, hb⟩
    have ba_42 := keep1 hb ba_41
    have va_42 := keep1 hb va_41
    have p1_42 := keep1 hb p1_41
    have q1_42 := keep1 hb q1_41
    have Sa_42 := Lib.hid ((Sa_41.out.below hb).call hb.size)
    have Sk_42 := Lib.hid ((Sk_41.out.below hb).call hb.size)
    have HB_42 : Hid (Below w.heap.size w w42) := Lib.hid (HB_41.out.trans (hb.mono HB_41.out.size))
    clear hb  ba_41 va_41 p1_41 q1_41 Sa_41 Sk_41 HB_41
    clear Sk_42
    obtain ⟨a1, a2, a3, a4⟩ := bit_all (m := m) (p := p) (q := q) (j := k) (by rw [QO.out, QL.out]; exact HJB.out) BP.out BQ.out DP.out
    obtain ⟨c1, c2, c3, c4⟩ := bit_all (m := m) (p := q) (q := p) (j := k) (by rw [Nat.or_comm, QO.out, QL.out]; exact HJB.out) BQ.out BP.out (by rw [Nat.and_comm]; exact DP.out)
    rw [hbk.out] at a1 a2 a3 a4 c1 c2 c3 c4
    obtain ⟨u, hu⟩ : ∃ u, p ||| b = u := ⟨_, rfl⟩
    obtain ⟨v, hv⟩ : ∃ v, q ||| b = v := ⟨_, rfl⟩
    rw [hu] at a1 a2 a3 a4
    rw [hv] at c1 c2 c3 c4
    have hu4 := part_le a2
    have hv4 := part_le c2
    rw [QO.out, QL.out] at a4
    rw [Nat.or_comm q p, QO.out, QL.out] at c4
    obtain ⟨cx, qx⟩ : ∃ c, 2 ^ popc (nl m (u ||| q)) = c := ⟨_, rfl⟩
    obtain ⟨cy, qy⟩ : ∃ c, 2 ^ popc (nl m (v ||| p)) = c := ⟨_, rfl⟩
    have hpl : 2 ^ popc l ≤ 2 ^ 12 := Nat.pow_le_pow_right (by decide) (popc_le12 hl)
    rw [qx] at a4
    rw [qy] at c4
    have HX : Hid (mCountA dsa ba ⟨(u : Int), (q : Int)⟩ = (cx : Int)) := Lib.hid (count_is (arm_of HFL.out (by rw [HM.out]; exact a2) (by rw [HM.out]; exact BQ.out) a3) (by rw [HM.out]; exact qx))
    have HY : Hid (mCountA dsa ba ⟨(p : Int), (v : Int)⟩ = (cy : Int)) := Lib.hid (count_is (arm_of HFL.out (by rw [HM.out]; exact BP.out) (by rw [HM.out]; exact c2) (by rw [Nat.and_comm]; exact c3)) (by rw [HM.out, Nat.or_comm]; exact qy))
    have w1' : IntKind.i64.wrap ((p : Int) + (b : Int)) = (u : Int) := by rw [IntKind.wrap_i64]; omega
    have w2' : IntKind.i64.wrap ((q : Int) + (b : Int)) = (v : Int) := by rw [IntKind.wrap_i64]; omega
    have hrc := HRC.out
    obtain ⟨z, hz⟩ : ∃ z, 2 ^ popc l = z := ⟨_, rfl⟩
    rw [hz] at hrc a4 c4 hpl
    have hxy : cx = cy := by omega
    subst hxy
    have w3' : IntKind.i64.wrap ((cx : Int) + (cx : Int)) = (z : Int) := by rw [IntKind.wrap_i64]; omega
    have Iu : I64 u := by unfold I64; omega
    have Iv : I64 v := by unfold I64; omega
    clear HRC h0
    subst hrc
    clear a1 a2 a3 a4 c1 c2 c3 c4 hu hv qx qy hz hpl hu4 hv4
    go_wp2_with fail
    refine (implCountA_v dsa ba u q _ _ _ _ Sa_42.out (by omega) Iu I12 HX.out).mono ?_
    rintro e w43 ⟨rfl, hb⟩
    have ba_43 := keep1 hb ba_42
    have va_43 := keep1 hb va_42
    have p1_43 := keep1 hb p1_42
    have q1_43 := keep1 hb q1_42
    have Sa_43 := Lib.hid ((Sa_42.out.below hb).call hb.size)
    have HB_43 : Hid (Below w.heap.size w w43) := Lib.hid (HB_42.out.trans (hb.mono HB_42.out.size))
    clear hb  ba_42 va_42 p1_42 q1_42 Sa_42 HB_42
    go_wp2_with fail
    refine (implCountA_v dsa ba p v _ _ _ _ Sa_43.out (by omega) I11 Iv HY.out).mono ?_
    rintro e w44 ⟨rfl, hb⟩
    have ba_44 := keep1 hb ba_43
    have va_44 := keep1 hb va_43
    have p1_44 := keep1 hb p1_43
    have q1_44 := keep1 hb q1_43
    have Sa_44 := Lib.hid ((Sa_43.out.below hb).call hb.size)
    have HB_44 : Hid (Below w.heap.size w w44) := Lib.hid (HB_43.out.trans (hb.mono HB_43.out.size))
    clear hb  ba_43 va_43 p1_43 q1_43 Sa_43 HB_43
    go_wp2
    go_ret
    exact ⟨rfl, HB_44.out⟩

theorem lifted (os : Os) (started : os.Started) (H : Type) (enc : TypeId × Value → H) :
    ReturnsInHanded {} Try.checked os 8 .any (Rows.fnCountArmSpec.pre6 enc Try.prog Try.f8 Rows.fnCountArmRow.domain false) (Rows.fnCountArmSpec.post enc Try.prog Try.f8 false true false false) := by
  refine returnsInHanded_of_change (C := Try.checked) own started (by kernel_rfl) Try.func8
    (ChangeSpec.witness6 (enc := enc) (C := Try.checked) false ⟨#[], #[.slice none 0 0], []⟩ 8 (by kernel_rfl) (by kernel_rfl) (by kernel_rfl) (by kernel_rfl)) ?_
  intro W base args ds gs before hval0 hW hcnd _
  have hval : ∀ (j : Nat) t v, Try.f8.params[j]? = some t → args[j]? = some v → Value.okWide Try.prog W .any base t v := hval0
  have hW' := hW
  obtain ⟨p, q, hA0, hV, rfl, hfz, hnd⟩ := hW
  have hA : DataW.TrodAll enc Try.prog W 0 (fun _ => true) true Try.f8.params.toList args.toList ds p := hA0
  rw [Try.params8] at hA hval
  obtain ⟨v0, vs0, d0, ds0, p0, q0, hargs, rfl, rfl, h0, r0⟩ := trodAll_cons hA
  obtain ⟨rfl, rfl, rfl⟩ := trodAll_nil r0
  obtain rfl : args = #[v0] := by cases args; simp_all
  obtain ⟨rfl, rfl⟩ := trodVars_none hV
  have k0 := h0
  have lt0 : ∀ x ∈ p0, x.block < W.heap.size := by obtain ⟨m, hm⟩ := k0; exact DataW.trod_lt m _ _ _ hm
  obtain ⟨A0, n0, c0, l0, rfl, w0⟩ := open_code (hval 0 22 v0 rfl rfl) h0
  clear hA0 hval0
  refine (walk A0 n0 c0 l0 W w0).mono fun e W' ⟨he, bel⟩ => ?_
  subst he
  exact ⟨_, rfl, _, _, _, [], _, [], hW', trodAll_mk1 (shut_bool Try.underlying4 _), (trodAll_cons_mk (Below.trod laidOut (by kernel_rfl) (of_decide_eq_true (by kernel_rfl)) k0 bel lt0) trodAll_mk0), rfl, bel.frame _, fun h => by cases h⟩

theorem over : Rows.fnCountArmRow.holds Try.pinned (OpenSpec.ofChange Rows.fnCountArmSpec) :=
  OpenClaim.holds_of_wide 8 Try.f8 rfl rfl rfl rfl rfl rfl rfl ⟨rfl, rfl, rfl, rfl, rfl⟩ rfl rfl rfl rfl rfl (by kernel_rfl) Try.func8 (by kernel_rfl)
    (of_decide_eq_true (by kernel_rfl)) (by unfold Func.isWrapper; first | (rw [if_pos (by decide +kernel)]; kernel_rfl) | (rw [if_neg (by decide +kernel)]; exact ⟨rfl, rfl⟩))
    (fun os started H enc _ => lifted os started H enc)

theorem proved : Rows.FnCountArmSaid := over
end Go.Proofs.Ytcaobalijnajgaa.fnCountArm
