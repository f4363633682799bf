import Derived.Test.YtlabdkmjdejgcaaSub
namespace Go.Proofs.Ytlabdkmjdejgcaa
open Go.RowKit
set_option linter.unusedVariables false
set_option maxRecDepth 100000

theorem one_D (xs : List D) : ∀ u ∈ xs.flatMap encD, u.oneCell' = true := by
  intro u hu
  obtain ⟨d, _, hd⟩ := List.mem_flatMap.1 hu
  simp [encD] at hd
  rcases hd with rfl | rfl <;> rfl

theorem zeros_D (m : Nat) : ∀ u ∈ (Builtin.zeroCells (.agg #[.string ByteArray.empty, .int .i64 0] : Value).cells m).toList, u.oneCell' = true := by
  intro u hu
  have hc : (.agg #[.string ByteArray.empty, .int .i64 0] : Value).cells = #[.string ByteArray.empty, .int .i64 0] := by rfl
  rw [hc] at hu
  unfold Builtin.zeroCells at hu
  simp only [Array.mem_toList_iff, Array.mem_map] at hu
  obtain ⟨i, _, rfl⟩ := hu
  have h4 : i % (#[.string ByteArray.empty, .int .i64 0] : Array Value).size < 2 := Nat.mod_lt _ (by decide)
  generalize i % (#[.string ByteArray.empty, .int .i64 0] : Array Value).size = r at h4 ⊢
  match r, h4 with
  | 0, _ => rfl
  | 1, _ => rfl
  | r + 2, h => omega

/-- A fresh row of elements. -/
def FreshD (xs : List D) (w : World) (e : Ending) (w' : World) : Prop :=
  ∃ A c, e = .returned (.slice A xs.length c) ∧ w'.ownsRow w.heap.size 67 2 (.slice A xs.length c) xs.length (xs.flatMap encD) ∧ Below w.heap.size w w'

end Go.Proofs.Ytlabdkmjdejgcaa
