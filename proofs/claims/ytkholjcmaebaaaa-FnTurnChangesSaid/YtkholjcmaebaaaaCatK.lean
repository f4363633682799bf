import Derived.Test.YtkholjcmaebaaaaBaseC
namespace Go.Proofs.Ytkholjcmaebaaaa
open Go.RowKit
set_option linter.unusedVariables false
set_option maxRecDepth 100000

theorem one_K (xs : List Ch) : ∀ u ∈ xs.flatMap encK, u.oneCell' = true := by
  intro u hu
  obtain ⟨d, _, hd⟩ := List.mem_flatMap.1 hu
  simp [encK] at hd
  rcases hd with rfl | rfl | rfl | rfl <;> rfl

theorem zeros_K (m : Nat) : ∀ u ∈ (Builtin.zeroCells (.agg #[.int .i64 0, .string ByteArray.empty, .int .i64 0, .int .i64 0] : Value).cells m).toList, u.oneCell' = true := by
  intro u hu
  have hc : (.agg #[.int .i64 0, .string ByteArray.empty, .int .i64 0, .int .i64 0] : Value).cells = #[.int .i64 0, .string ByteArray.empty, .int .i64 0, .int .i64 0] := by rfl
  rw [hc] at hu
  unfold Builtin.zeroCells at hu
  simp only [Array.mem_toList_iff, Array.mem_map] at hu
  obtain ⟨i, _, rfl⟩ := hu
  have h4 : i % (#[.int .i64 0, .string ByteArray.empty, .int .i64 0, .int .i64 0] : Array Value).size < 4 := Nat.mod_lt _ (by decide)
  generalize i % (#[.int .i64 0, .string ByteArray.empty, .int .i64 0, .int .i64 0] : Array Value).size = r at h4 ⊢
  match r, h4 with
  | 0, _ => rfl
  | 1, _ => rfl
  | 2, _ => rfl
  | 3, _ => rfl
  | r + 4, h => omega

/-- A fresh row of elements. -/
def FreshK (xs : List Ch) (w : World) (e : Ending) (w' : World) : Prop :=
  ∃ A c, e = .returned (.slice A xs.length c) ∧ w'.ownsRow w.heap.size 137 4 (.slice A xs.length c) xs.length (xs.flatMap encK) ∧ Below w.heap.size w w'

end Go.Proofs.Ytkholjcmaebaaaa
