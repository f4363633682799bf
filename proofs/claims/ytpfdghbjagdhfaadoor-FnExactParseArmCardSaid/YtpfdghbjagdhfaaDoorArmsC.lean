import Derived.Test.YtpfdghbjagdhfaaDoorArms
import Derived.Test.YtpfdghbjagdhfaaDoorBaseC
namespace Go.Proofs.YtpfdghbjagdhfaaDoor
open Go.RowKit
set_option linter.unusedVariables false
set_option maxRecDepth 100000

set_option maxHeartbeats 1000000 in
theorem eqArm_any (x y : Int) (w : World) :
    Calls Tryd.prog 16 #[.agg #[.int .i64 x, .int .i64 y], .agg #[.int .i64 x, .int .i64 y]] w fun e w' => e = .returned (.bool true) ∧ Below w.heap.size w w' := by
  go_enter Tryd.func16, Tryd.ntmps16
  go_wp2
  go_ret
  exact ⟨rfl, ((Below.refl _ _).alloc (Nat.le_refl _) _).alloc (by simp) _⟩



def CopyA (n : Nat) (ts : List Ar) (w : World) (e : Ending) (w' : World) : Prop :=
  ∃ g, e = .returned (.slice (some ⟨g, 0, none⟩) n n) ∧ w'.ownsRow w.heap.size 27 2 (.slice (some ⟨g, 0, none⟩) n n) n (ts.flatMap encA) ∧ Below w.heap.size w w'


/-! ### marks -/
def marksA (k0 : Int) (k : Nat) : List Value := (List.range k).flatMap fun i => [.int .i64 (k0 + 2 * (i : Nat)), .int .i64 (k0 + 2 * (i : Nat) + 1)]
theorem marksA_succ (k0 : Int) (k : Nat) : marksA k0 (k + 1) = marksA k0 k ++ [.int .i64 (k0 + 2 * k), .int .i64 (k0 + 2 * k + 1)] := by
  unfold marksA; rw [List.range_succ, List.flatMap_append]; simp
theorem marksA_length (k0 : Int) (k : Nat) : (marksA k0 k).length = k * 2 := by
  induction k with
  | zero => rfl
  | succ k ih => rw [marksA_succ]; simp [ih]; omega
theorem marksA_get (k0 : Int) (n k : Nat) (h : k < n) : (marksA k0 n)[k * 2]? = some (.int .i64 (k0 + 2 * k)) ∧ (marksA k0 n)[k * 2 + 1]? = some (.int .i64 (k0 + 2 * k + 1)) := by
  induction n with
  | zero => omega
  | succ n ih =>
    rw [marksA_succ]
    by_cases e : k = n
    · subst e
      rw [List.getElem?_append_right (by rw [marksA_length]; omega), List.getElem?_append_right (by rw [marksA_length]; omega), marksA_length]
      simp
    · rw [List.getElem?_append_left (by rw [marksA_length]; omega), List.getElem?_append_left (by rw [marksA_length]; omega)]
      exact ih (by omega)

end Go.Proofs.YtpfdghbjagdhfaaDoor
