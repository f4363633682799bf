import Derived.Test.YtnaojafidhloeaaMemOf
import Derived.Laws.BytesString
import Derived.Laws.Concat
namespace Go.Proofs.Ytnaojafidhloeaa
open Go.RowKit
set_option linter.unusedVariables false
set_option maxRecDepth 100000

/-! ### markText: some text, the same each time -/
def dg (n : Int) : ByteArray := ByteArray.empty.push (UInt8.ofNat n.toNat)
theorem dg_size (n : Int) : (dg n).size = 1 := rfl
def mkGo (j : Int) (o : ByteArray) : ByteArray := if h : 0 < j then mkGo (j / 10) (dg (48 + j % 10) ++ o) else o
termination_by j.toNat
decreasing_by omega
theorem mkGo_pos {j : Int} {o : ByteArray} (h : 0 < j) : mkGo j o = mkGo (j / 10) (dg (48 + j % 10) ++ o) := by
  conv => lhs; unfold mkGo
  rw [dif_pos h]
theorem mkGo_end {j : Int} {o : ByteArray} (h : ¬ 0 < j) : mkGo j o = o := by
  unfold mkGo; rw [dif_neg h]
def mk (k : Int) : ByteArray := (⟨#[109]⟩ : ByteArray) ++ mkGo k ⟨#[]⟩

theorem conv1 (W : World) (n : Int) : (convert 22 9 (.slice (some ⟨W.heap.size, 0, none⟩) 1 1)).run Try.prog (W.alloc (.cells #[.int .u8 n] 5)) = .ok (.string (dg n)) (W.alloc (.cells #[.int .u8 n] 5)) := by
  rw [run_convert_bytes_string _ _ _ _ _ _ _ Try.underlying22 Try.underlying5 Try.underlying9]
  exact run_bytesToString _ _ _ _ [n] (by simp [loadCells, go_sem])

def TxtP (s : ByteArray) (w : World) (e : Ending) (w' : World) : Prop := e = .returned (.string s) ∧ Below w.heap.size w w'

end Go.Proofs.Ytnaojafidhloeaa
