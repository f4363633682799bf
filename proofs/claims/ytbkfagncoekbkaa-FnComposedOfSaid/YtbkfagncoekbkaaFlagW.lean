import Derived.Test.YtbkfagncoekbkaaBaseB
import Derived.Test.YtbkfagncoekbkaaFlagP
namespace Go.Proofs.Ytbkfagncoekbkaa
open Go.RowKit Go.Maps
set_option linter.unusedVariables false
set_option maxRecDepth 100000

/-! ### the model's functions on bits -/
set_option maxHeartbeats 1000000 in
theorem both_any (a b : Nat) (w : World) (ha : a < 4096) (hb : b < 4096) :
    Calls Try.prog 149 #[.int .i64 a, .int .i64 b] w fun e w' => e = .returned (.int .i64 ((a &&& b : Nat) : Int)) ∧ w = w' := by
  go_enter Try.func149, Try.ntmps149
  go_wp2
  go_loop [5, 6] (fun s i => ∃ (k p q : Nat), k ≤ 12 ∧ 1 ≤ p ∧ p ≤ 4096 ∧ q ≤ 4096 ∧ i = .int .i64 p ∧ s = .int .i64 q ∧ Hid (p = 2 ^ k) ∧ Hid (q = (a &&& b) % 2 ^ k)) (fun _ i => 4096 - (intOf i).toNat)
  case atStart => exact ⟨0, 1, 0, by omega, by omega, by omega, by omega, rfl, rfl, Lib.hid rfl, Lib.hid (by simp [Nat.mod_one])⟩
  case round =>
    obtain ⟨k, p, q, hk, hp1, hp2, hq1, rfl, rfl, hp, hq⟩ := hrel
    have hlt := and_lt (b := b) ha
    by_cases h12 : k < 12
    · have hp3 : p ≤ 2048 := by rw [hp.out]; exact Nat.pow_le_pow_right (n := 2) (by decide) (show k ≤ 11 by omega)
      have HS := Lib.hid (both_succ a b k)
      have HP2 : Hid (p * 2 = 2 ^ (k + 1)) := Lib.hid (by rw [hp.out, Nat.pow_succ])
      have hql : q + p ≤ 4096 := by
        have := Nat.mod_lt (a &&& b) (show 0 < 2 ^ k from Nat.two_pow_pos k)
        rw [hq.out]; have := hp.out; omega
      obtain ⟨x, hx⟩ : ∃ x : Nat, a / p = x := ⟨_, rfl⟩
      obtain ⟨y, hy⟩ : ∃ y : Nat, b / p = y := ⟨_, rfl⟩
      have hxl : x ≤ 4095 := by have := Nat.div_le_self a p; omega
      have hyl : y ≤ 4095 := by have := Nat.div_le_self b p; omega
      have dx : (a : Int) / (p : Int) = (x : Int) := by rw [← hx]; push_cast; rfl
      have dy : (b : Int) / (p : Int) = (y : Int) := by rw [← hy]; push_cast; rfl
      rw [← hp.out, hx, hy] at HS
      have HS' := Lib.hid HS.out
      have HQ0 : Hid (q = (a &&& b) % p) := Lib.hid (by rw [hp.out]; exact hq.out)
      clear hx hy HS
      by_cases ha1 : x % 2 = 1
      · have e1 : ((x : Int) % 2 == 1) = true := by rw [beq_iff_eq]; omega
        by_cases hb1 : y % 2 = 1
        · have e2 : ((y : Int) % 2 == 1) = true := by rw [beq_iff_eq]; omega
          have HQ : Hid (q + p = (a &&& b) % 2 ^ (k + 1)) := Lib.hid (by rw [HS'.out, if_pos ⟨ha1, hb1⟩, ← HQ0.out])
          clear ha1 hb1
          go_wp2
          go_round
          case rel => exact ⟨k + 1, p * 2, q + p, by omega, by omega, by omega, by omega, by go_num, by go_num, HP2, HQ⟩
          case measure => simp [intOf]; omega
        · have e2 : ((y : Int) % 2 == 1) = false := by rw [beq_eq_false_iff_ne]; omega
          have HQ : Hid (q = (a &&& b) % 2 ^ (k + 1)) := Lib.hid (by rw [HS'.out, if_neg (fun h => hb1 h.2), ← HQ0.out]; rfl)
          clear ha1 hb1
          go_wp2
          go_round
          case rel => exact ⟨k + 1, p * 2, q, by omega, by omega, by omega, by omega, by go_num, rfl, HP2, HQ⟩
          case measure => simp [intOf]; omega
      · have e1 : ((x : Int) % 2 == 1) = false := by rw [beq_eq_false_iff_ne]; omega
        have HQ : Hid (q = (a &&& b) % 2 ^ (k + 1)) := Lib.hid (by rw [HS'.out, if_neg (fun h => ha1 h.1), ← HQ0.out]; rfl)
        clear ha1
        go_wp2
        go_round
        case rel => exact ⟨k + 1, p * 2, q, by omega, by omega, by omega, by omega, by go_num, rfl, HP2, HQ⟩
        case measure => simp [intOf]; omega
    · obtain rfl : k = 12 := by omega
      have hp4 : p = 4096 := hp.out
      have hp5 : (4095 : Int) < (p : Int) := by omega
      have HQ : Hid (q = a &&& b) := Lib.hid (by rw [hq.out]; exact Nat.mod_eq_of_lt hlt)
      clear hp4
      go_wp2
      go_ret
      exact ⟨by rw [HQ.out]; first | done | rfl, rfl⟩

theorem both_v (a b : Nat) (w : World) (ha : a < 4096) (hb : b < 4096) {v : Nat} (hv : a &&& b = v) :
    Calls Try.prog 149 #[.int .i64 a, .int .i64 b] w fun e w' => e = .returned (.int .i64 v) ∧ w = w' := hv ▸ both_any a b w ha hb

set_option maxHeartbeats 400000 in
theorem less_any (a b : Nat) (w : World) (ha : a < 4096) (hb : b < 4096) {v : Nat} (hv : nl a b = v) :
    Calls Try.prog 130 #[.int .i64 a, .int .i64 b] w fun e w' => e = .returned (.int .i64 v) ∧ w = w' := by
  have h := nl_add_and a b
  have HV : Hid ((a : Int) - ((a &&& b : Nat) : Int) = (v : Int)) := Lib.hid (by omega)
  have hle := and_le a b
  generalize hx : a &&& b = x at *
  have HX := Lib.hid hx
  clear hx h hv
  go_enter Try.func130, Try.ntmps130
  go_wp2_with (go_at_call 149; refine (both_v a b _ ha hb HX.out).mono ?_; rintro e w' ⟨rfl, rfl⟩)
  go_ret
  exact ⟨by rw [HV.out]; first | done | rfl, rfl⟩

set_option maxHeartbeats 400000 in
theorem either_any (a b : Nat) (w : World) (ha : a < 4096) (hb : b < 4096) {v : Nat} (hv : a ||| b = v) :
    Calls Try.prog 164 #[.int .i64 a, .int .i64 b] w fun e w' => e = .returned (.int .i64 v) ∧ w = w' := by
  have h := or_add_and a b
  have HV : Hid ((a : Int) + (b : Int) - ((a &&& b : Nat) : Int) = (v : Int)) := Lib.hid (by omega)
  have hle := and_le a b
  generalize hx : a &&& b = x at *
  have HX := Lib.hid hx
  clear hx h hv
  go_enter Try.func164, Try.ntmps164
  go_wp2_with (go_at_call 149; refine (both_v a b _ ha hb HX.out).mono ?_; rintro e w' ⟨rfl, rfl⟩)
  go_ret
  exact ⟨by rw [HV.out]; first | done | rfl, rfl⟩

set_option maxHeartbeats 400000 in
theorem bitCount_any (n : Nat) (w : World) (hn : n ≤ 1000000) {v : Nat} (hv : popc n = v) :
    Calls Try.prog 93 #[.int .i64 n] w fun e w' => e = .returned (.int .i64 v) ∧ w = w' := by
  subst hv
  have hple := popc_le n
  go_enter Try.func93, Try.ntmps93
  go_wp2
  go_loop [0, 3] (fun i s => ∃ (m q : Nat), m ≤ 1000000 ∧ q + m ≤ 1000000 ∧ i = .int .i64 m ∧ s = .int .i64 q ∧ Hid (q + popc m = popc n)) (fun i _ => (intOf i).toNat)
  case atStart => exact ⟨n, 0, hn, by omega, rfl, rfl, Lib.hid (by omega)⟩
  case round =>
    obtain ⟨m, q, hm, hq, rfl, rfl, heq⟩ := hrel
    by_cases h0 : 0 < m
    · have HP := Lib.hid (popc_pos h0)
      go_wp2
      go_round
      case rel => exact ⟨m / 2, q + m % 2, by omega, by omega, by go_num, by go_num, Lib.hid (by have := HP.out; have := heq.out; omega)⟩
      case measure => simp [intOf]; omega
    · obtain rfl : m = 0 := by omega
      go_wp2
      go_ret
      have := heq.out
      rw [popc_zero] at this
      exact ⟨by rw [← this]; rfl, rfl⟩

set_option maxHeartbeats 400000 in
theorem mask_any (ds : List D) (A : Option Addr) (n c : Nat) (w : World) (hr : SD w w.heap.size A n c ds) (hin : ∀ d ∈ ds, inR d) {v : Nat} (hv : mMask ds = v) :
    Calls Try.prog 131 #[.slice A n c] w fun e w' => e = .returned (.int .i64 v) ∧ w = w' := by
  subst hv
  obtain rfl := hr.len
  have hl := hr.max
  have hl2 := hr.cap
  unfold maxLen at hl
  have HR := Lib.hid hr
  have HIN := Lib.hid hin
  clear hr hin
  go_enter Try.func131, Try.ntmps131
  go_wp2
  go_loop [3, 4] (fun s i => ∃ (k q : Nat), k ≤ ds.length ∧ q < 4096 ∧ i = .int .i64 k ∧ s = .int .i64 q ∧ Hid (q = mMask (ds.take k))) (fun _ i => ds.length - (intOf i).toNat)
  case atStart => exact ⟨0, 0, Nat.zero_le _, by omega, rfl, rfl, Lib.hid rfl⟩
  case round =>
    obtain ⟨k, q, hk, hq, rfl, rfl, hmq⟩ := hrel
    by_cases hlt : k < ds.length
    · obtain ⟨b, o, rfl, hbb, c1, c2⟩ := HR.out.at_ hlt
      have HI := Lib.hid (HIN.out _ (List.getElem_mem hlt))
      obtain ⟨x, hx⟩ : ∃ x : Nat, ds[k].val = x := ⟨ds[k].val.toNat, (Int.toNat_of_nonneg HI.out.1).symm⟩
      have hx4 : x < 4096 := by have := HI.out.2; omega
      have HM : Hid (q ||| x = mMask (ds.take (k + 1))) := Lib.hid (by rw [mMask_snoc ds k hlt, hmq.out, hx]; rfl)
      have HO := Lib.hid (or_lt hq hx4)
      rw [hx] at c2
      clear hx
      have hi1 : (k : Int) < (ds.length : Int) := by omega
      go_wp2_with (go_at_call 164; refine (either_any q x _ hq hx4 rfl).mono ?_; rintro e w' ⟨rfl, rfl⟩)
      generalize q ||| x = z at *
      go_round
      case rel => exact ⟨k + 1, z, by omega, HO.out, by go_num, rfl, HM⟩
      case measure => simp [intOf]; omega
    · obtain rfl : k = ds.length := by omega
      have HM : Hid (q = mMask ds) := Lib.hid (by rw [hmq.out, List.take_of_length_le (Nat.le_refl _)])
      go_wp2
      go_ret
      exact ⟨by rw [HM.out]; first | done | rfl, rfl⟩
end Go.Proofs.Ytbkfagncoekbkaa
