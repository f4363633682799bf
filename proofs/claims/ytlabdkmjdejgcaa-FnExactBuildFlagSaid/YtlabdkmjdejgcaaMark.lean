import Derived.Test.YtlabdkmjdejgcaaMemOf
import Derived.Laws.BytesString
import Derived.Laws.Concat
namespace Go.Proofs.Ytlabdkmjdejgcaa
open Go.RowKit
set_option linter.unusedVariables false
set_option maxRecDepth 100000

/-! ### markText: some text, the same each time -/
def dg (n : Int) : ByteArray := ByteArray.empty.push (UInt8.ofNat n.toNat)
theorem dg_size (n : Int) : (dg n).size = 1 := rfl
def mkGo (j : Int) (o : ByteArray) : ByteArray := if h : 0 < j then mkGo (j / 10) (dg (48 + j % 10) ++ o) else o
termination_by j.toNat
decreasing_by omega
theorem mkGo_pos {j : Int} {o : ByteArray} (h : 0 < j) : mkGo j o = mkGo (j / 10) (dg (48 + j % 10) ++ o) := by
  conv => lhs; unfold mkGo
  rw [dif_pos h]
theorem mkGo_end {j : Int} {o : ByteArray} (h : ¬ 0 < j) : mkGo j o = o := by
  unfold mkGo; rw [dif_neg h]
def mk (k : Int) : ByteArray := (⟨#[109]⟩ : ByteArray) ++ mkGo k ⟨#[]⟩

theorem conv1 (W : World) (n : Int) : (convert 114 9 (.slice (some ⟨W.heap.size, 0, none⟩) 1 1)).run Try.prog (W.alloc (.cells #[.int .u8 n] 5)) = .ok (.string (dg n)) (W.alloc (.cells #[.int .u8 n] 5)) := by
  rw [run_convert_bytes_string _ _ _ _ _ _ _ Try.underlying114 Try.underlying5 Try.underlying9]
  exact run_bytesToString _ _ _ _ [n] (by simp [loadCells, go_sem])

def TxtP (s : ByteArray) (w : World) (e : Ending) (w' : World) : Prop := e = .returned (.string s) ∧ Below w.heap.size w w'

set_option maxHeartbeats 1000000 in
theorem markText_any (k : Int) (w : World) (h0 : 0 < k) (h1 : k ≤ 8000000) :
    Calls Try.prog 44 #[.int .i64 k] w (TxtP (mk k) w) := by
  have HK : Hid (mk k = (⟨#[109]⟩ : ByteArray) ++ mkGo k ⟨#[]⟩) := Lib.hid rfl
  go_enter Try.func44, Try.ntmps44
  go_wp2
  go_loopw [0, 3] (fun i s wr => ∃ (j : Int) (o : ByteArray), 0 ≤ j ∧ (o.size : Int) + j ≤ 8000000 ∧ i = .int .i64 j ∧ s = .string o ∧ Hid (mkGo j o = mkGo k ⟨#[]⟩) ∧ Hid (Below w.heap.size w wr)) (fun i _ _ => (intOf i).toNat)
  case atStart => exact ⟨k, ⟨#[]⟩, by omega, (by show ((0 : Nat) : Int) + k ≤ _; omega), rfl, rfl, Lib.hid rfl, Lib.hid (Below.refl _ _)⟩
  case round =>
    obtain ⟨j, o, hj0, hj1, rfl, rfl, hmk, hbel⟩ := hrel
    by_cases hpos : 0 < j
    · have hcv := conv1 wr (48 + j % 10)
      have hsz := dg_size (48 + j % 10)
      have HM := Lib.hid (mkGo_pos (o := o) hpos)
      generalize dg (48 + j % 10) = x at hcv hsz HM
      have hx1 : (x.size : Int) ≤ 8388608 := by omega
      have ho1 : (o.size : Int) ≤ 8388608 := by omega
      have hadd : ∀ W : World, (Op.stringOp .add x o).run Try.prog W = .ok (.string (x ++ o)) W := fun W => run_string_add W x o hx1 ho1
      have HZ : Hid (((x ++ o).size : Int) + j / 10 ≤ 8000000) := Lib.hid (by rw [ByteArray.size_append]; push_cast; omega)
      clear hsz hx1 ho1
      generalize hz : x ++ o = z at hadd HZ HM
      clear hz
      go_wp2
      go_roundw
      case rel => exact ⟨j / 10, z, by omega, HZ.out, by go_num, rfl, Lib.hid (by rw [← HM.out]; exact hmk.out), Lib.hid (hbel.out.alloc hbel.out.size _)⟩
      case measure => simp [intOf]; omega
    · have HM := Lib.hid (mkGo_end (o := o) hpos)
      have hx1 : ((⟨#[109]⟩ : ByteArray).size : Int) ≤ 8388608 := by decide
      have ho1 : (o.size : Int) ≤ 8388608 := by omega
      have hadd : ∀ W : World, (Op.stringOp .add ⟨#[109]⟩ o).run Try.prog W = .ok (.string (⟨#[109]⟩ ++ o)) W := fun W => run_string_add W _ o hx1 ho1
      have HF : Hid (mk k = (⟨#[109]⟩ : ByteArray) ++ o) := Lib.hid (by rw [HK.out, ← hmk.out, HM.out])
      generalize hz : (⟨#[109]⟩ : ByteArray) ++ o = z at hadd HF
      clear hz hx1
      go_wp2
      go_ret
      exact ⟨by rw [HF.out]; rfl, hbel.out⟩
end Go.Proofs.Ytlabdkmjdejgcaa
