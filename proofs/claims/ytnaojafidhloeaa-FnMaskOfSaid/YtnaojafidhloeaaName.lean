import Derived.Test.YtnaojafidhloeaaRows
import Derived.WalkKit
import Derived.WalkSpells
import Derived.WalkLawsBesides
import Derived.Lib.Hide
import Derived.Test.YtnaojafidhloeaaFun
namespace Go.Proofs.Ytnaojafidhloeaa
open Go.RowKit
set_option linter.unusedVariables false
set_option maxRecDepth 100000

theorem ret_bool {a b : Bool} (h : a = b) : Ending.returned (.bool a) = .returned (.bool b) := by rw [h]

set_option maxHeartbeats 400000 in
theorem inRange_any (n a b : Int) (w : World) :
    Calls Try.prog 68 #[.int .i64 n, .int .i64 a, .int .i64 b] w fun e w' => e = .returned (.bool (decide (a ≤ n) && decide (n ≤ b))) ∧ w = w' := by
  by_cases h1 : a ≤ n <;> by_cases h2 : n ≤ b
  all_goals
    go_enter Try.func68, Try.ntmps68
    go_wp2
    go_ret
    exact ⟨ret_bool (by simp [h1, h2]), rfl⟩

set_option maxHeartbeats 400000 in
theorem implName (s : ByteArray) (w : World) (hs : s.size ≤ maxLen) :
    Calls Try.prog 109 #[.string s] w fun e w' => e = .returned (.bool (vName s)) ∧ w = w' := by
  unfold maxLen at hs
  by_cases h1 : s.size < 1
  · have hv : vName s = false := by unfold vName; simp; omega
    have HV := Lib.hid hv
    clear hv
    go_enter Try.func109, Try.ntmps109
    go_wp2
    go_ret
    exact ⟨ret_bool HV.out.symm, rfl⟩
  · by_cases h2 : 6 < s.size
    · have hv : vName s = false := by unfold vName; simp; omega
      have HV := Lib.hid hv
      clear hv
      go_enter Try.func109, Try.ntmps109
      go_wp2
      go_ret
      exact ⟨ret_bool HV.out.symm, rfl⟩
    · have hv : vName s = okTo s s.size := by unfold vName; simp; omega
      have HV := Lib.hid hv
      clear hv
      go_enter Try.func109, Try.ntmps109
      go_wp2
      go_loop [3] (fun i => ∃ k : Nat, k ≤ s.size ∧ i = .int .i64 k ∧ Hid (okTo s k = true)) (fun i => s.size - (intOf i).toNat)
      case atStart => exact ⟨0, Nat.zero_le _, rfl, Lib.hid (okTo_zero s)⟩
      case round =>
        obtain ⟨k, hk, rfl, hok⟩ := hrel
        by_cases hlt : k < s.size
        · have hs1 := Lib.hid (okTo_succ s k hlt)
          by_cases hlo : (s[k].toNat : Int) < 97
          · have hb := Lib.hid (okB_lt _ hlo)
            go_wp2
            go_ret
            exact ⟨ret_bool (by rw [HV.out]; exact (okTo_false s (k+1) (by rw [hs1.out, hb.out]; simp)).symm), rfl⟩
          · by_cases hhi : 122 < (s[k].toNat : Int)
            · have hb := Lib.hid (okB_gt _ hhi)
              go_wp2
              go_ret
              exact ⟨ret_bool (by rw [HV.out]; exact (okTo_false s (k+1) (by rw [hs1.out, hb.out]; simp)).symm), rfl⟩
            · have hb := Lib.hid (okB_in s[k] (by omega) (by omega))
              go_wp2
              go_round
              case rel => exact ⟨k + 1, by omega, by go_num, Lib.hid (by rw [hs1.out, hok.out, hb.out]; rfl)⟩
              case measure => simp [intOf]; omega
        · obtain rfl : k = s.size := by omega
          go_wp2
          go_ret
          exact ⟨ret_bool (by rw [HV.out]; exact hok.out.symm), rfl⟩

set_option maxHeartbeats 400000 in
theorem specName1 (s : ByteArray) (w : World) (hs : s.size ≤ maxLen) :
    Calls Try.prog 101 #[.string s] w fun e w' => e = .returned (.bool (vName s)) ∧ w = w' := by
  unfold maxLen at hs
  have hv : vName s = (decide ((1:Int) ≤ (s.size : Int)) && decide ((s.size : Int) ≤ 6) && okTo s s.size) := by
    unfold vName; rw [Bool.eq_iff_iff]; simp; omega
  have HV := Lib.hid hv
  clear hv
  go_enter Try.func101, Try.ntmps101
  go_wp2
  go_loop [3] (fun i => ∃ k : Nat, k ≤ s.size ∧ i = .int .i64 k ∧ Hid (okTo s k = true)) (fun i => s.size - (intOf i).toNat)
  case atStart => exact ⟨0, Nat.zero_le _, rfl, Lib.hid (okTo_zero s)⟩
  case round =>
    obtain ⟨k, hk, rfl, hok⟩ := hrel
    by_cases hlt : k < s.size
    · have hs1 := Lib.hid (okTo_succ s k hlt)
      by_cases hlo : (s[k].toNat : Int) < 97
      · have hb := Lib.hid (okB_lt _ hlo)
        go_wp2
        go_ret
        exact ⟨ret_bool (by rw [HV.out, okTo_false s (k+1) (by rw [hs1.out, hb.out]; simp)]; simp), rfl⟩
      · by_cases hhi : 122 < (s[k].toNat : Int)
        · have hb := Lib.hid (okB_gt _ hhi)
          go_wp2
          go_ret
          exact ⟨ret_bool (by rw [HV.out, okTo_false s (k+1) (by rw [hs1.out, hb.out]; simp)]; simp), rfl⟩
        · have hb := Lib.hid (okB_in s[k] (by omega) (by omega))
          go_wp2
          go_round
          case rel => exact ⟨k + 1, by omega, by go_num, Lib.hid (by rw [hs1.out, hok.out, hb.out]; rfl)⟩
          case measure => simp [intOf]; omega
    · obtain rfl : k = s.size := by omega
      go_wp2_with (go_at_call 68; refine (inRange_any _ _ _ _).mono ?_; rintro e w' ⟨rfl, rfl⟩)
      go_ret
      exact ⟨ret_bool (by rw [HV.out, hok.out]; simp), rfl⟩

theorem inRange_v (n a b : Int) (w : World) {v : Bool} (hv : (decide (a ≤ n) && decide (n ≤ b)) = v) :
    Calls Try.prog 68 #[.int .i64 n, .int .i64 a, .int .i64 b] w fun e w' => e = .returned (.bool v) ∧ w = w' := hv ▸ inRange_any n a b w
theorem specName_v (s : ByteArray) (w : World) (hs : s.size ≤ maxLen) {v : Bool} (hv : vName s = v) :
    Calls Try.prog 101 #[.string s] w fun e w' => e = .returned (.bool v) ∧ w = w' := hv ▸ specName1 s w hs
theorem implName_v (s : ByteArray) (w : World) (hs : s.size ≤ maxLen) {v : Bool} (hv : vName s = v) :
    Calls Try.prog 109 #[.string s] w fun e w' => e = .returned (.bool v) ∧ w = w' := hv ▸ implName s w hs
end Go.Proofs.Ytnaojafidhloeaa
