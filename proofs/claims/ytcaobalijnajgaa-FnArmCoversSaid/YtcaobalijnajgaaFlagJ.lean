import Derived.Test.YtcaobalijnajgaaFlagI
namespace Go.Proofs.Ytcaobalijnajgaa
open Go.RowKit Go.Maps
set_option linter.unusedVariables false
set_option maxRecDepth 100000

/-! ### the program's lists of definitions -/
/-! ### what a bound does with bits that are not named -/
def bdF (b : Int) : Value := .func (.func (if b = 0 then 77 else if b = 1 then 78 else if b = 2 then 79 else 80)) #[] #[]
set_option maxHeartbeats 400000 in
theorem refuse_any (n m : Int) (w : World) : Calls Try.prog 77 #[.int .i64 n, .int .i64 m] w fun e w' => e = .returned (.tuple #[.int .i64 0, .int .i64 2]) ∧ w = w' := by
  go_enter Try.func77, Try.ntmps77
  go_wp2
  go_ret2
  exact ⟨rfl, rfl⟩
set_option maxHeartbeats 400000 in
theorem leaveOut_any (n m : Nat) (w : World) (hn : n < 4096) (hm : m < 4096) : Calls Try.prog 78 #[.int .i64 n, .int .i64 m] w fun e w' => e = .returned (.tuple #[.int .i64 ((n &&& m : Nat) : Int), .int .i64 0]) ∧ w = w' := by
  have h := i64_and_nat n m (by omega) (by omega)
  go_enter Try.func78, Try.ntmps78
  go_wp2
  go_ret2
  exact ⟨rfl, rfl⟩
set_option maxHeartbeats 400000 in
theorem eject_any (n m : Int) (w : World) : Calls Try.prog 79 #[.int .i64 n, .int .i64 m] w fun e w' => e = .returned (.tuple #[.int .i64 n, .int .i64 1]) ∧ w = w' := by
  go_enter Try.func79, Try.ntmps79
  go_wp2
  go_ret2
  exact ⟨rfl, rfl⟩
set_option maxHeartbeats 400000 in
theorem keep_any (n m : Int) (w : World) : Calls Try.prog 80 #[.int .i64 n, .int .i64 m] w fun e w' => e = .returned (.tuple #[.int .i64 n, .int .i64 0]) ∧ w = w' := by
  go_enter Try.func80, Try.ntmps80
  go_wp2
  go_ret2
  exact ⟨rfl, rfl⟩
end Go.Proofs.Ytcaobalijnajgaa
