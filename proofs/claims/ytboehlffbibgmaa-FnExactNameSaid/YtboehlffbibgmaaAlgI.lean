import Derived.Test.YtboehlffbibgmaaBaseE
namespace Go.Proofs.Ytboehlffbibgmaa
open Go.RowKit Go.Maps
set_option linter.unusedVariables false
set_option maxRecDepth 100000

set_option maxHeartbeats 400000 in
theorem bsOr_v (a b : Nat) (w : World) (ha : a < 4096) (hb : b < 4096) {v : Nat} (hv : a ||| b = v) :
    Calls Try.prog 17 #[.int .i64 a, .int .i64 b] w fun e w' => e = .returned (.int .i64 v) ∧ w = w' := by
  have h := i64_or_nat a b (by omega) (by omega)
  rw [hv] at h
  clear hv
  go_enter Try.func17, Try.ntmps17
  go_wp2
  go_ret
  exact ⟨rfl, rfl⟩
end Go.Proofs.Ytboehlffbibgmaa
