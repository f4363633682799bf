import Derived.Test.YtlabdkmjdejgcaaFlagI
namespace Go.Proofs.Ytlabdkmjdejgcaa
open Go.RowKit Go.Maps
set_option linter.unusedVariables false
set_option maxRecDepth 100000

/-! ### the program's lists of definitions -/
set_option maxHeartbeats 1000000 in
theorem implNames_any (ds : List D) (A : Option Addr) (n c : Nat) (w : World) (hr : SD w w.heap.size A n c ds) (hn : n ≤ 1048576) :
    Calls Try.prog 47 #[.slice A n c] w (StrsP (ds.map (·.name)) w) := by
  obtain rfl := hr.len
  have hl := hr.max
  have hl2 := hr.cap
  unfold maxLen at hl
  have HR := Lib.hid hr
  clear hr
  go_enter Try.func47, Try.ntmps47
  go_wp2
  go_loopw [3, 8] (fun v i wr => ∃ k : Nat, k ≤ ds.length ∧ i = .int .i64 k ∧ Hid (wr.ownsRow w.heap.size 9 1 v k (flatS ((ds.take k).map (·.name)))) ∧ Hid (Below w.heap.size w wr)) (fun _ i _ => ds.length - (intOf i).toNat)
  case atStart => exact ⟨0, Nat.zero_le _, rfl, Lib.hid (World.ownsRow_nil _ _ _ _), Lib.hid (Below.refl _ _)⟩
  case round =>
    obtain ⟨k, hk, rfl, hown, hbel⟩ := hrel
    by_cases hlt : k < ds.length
    · obtain ⟨b, o, rfl, hb, c1, c2⟩ := (HR.out.below hbel.out).at_ hlt
      have hi1 : (k : Int) < (ds.length : Int) := by omega
      have HT : Hid (flatS ((ds.take (k + 1)).map (·.name)) = flatS ((ds.take k).map (·.name)) ++ [.string ds[k].name]) := Lib.hid (by rw [List.take_succ_eq_append_getElem hlt]; unfold flatS; rw [List.map_append, List.map_append]; rfl)
      have l0 : (wr.alloc (.cells #[.string ds[k].name, .int .i64 ds[k].val] 67)).cell? ⟨wr.heap.size, 0, none⟩ = some (.string ds[k].name) := by simp [go_sem]
      have hbW : Below wr.heap.size wr (wr.alloc (.cells #[.string ds[k].name, .int .i64 ds[k].val] 67)) := (Below.refl _ _).alloc (Nat.le_refl _) _
      have HBW : Hid (Below w.heap.size w (wr.alloc (.cells #[.string ds[k].name, .int .i64 ds[k].val] 67))) := Lib.hid (hbel.out.trans (hbW.mono hbel.out.size))
      have HOW := Lib.hid (own_below hown.out hbW)
      clear hbW
      go_wp2_with (at_builtin; refine wpList_app_S rfl _ _ rfl w.heap.size _ _ _ rfl HOW.out _ _ _ rfl (by first | rfl | simp) (by omega) HBW.out.size ?_; intro v' w1 ho1 hb1; have HO1 := Lib.hid ho1; have HB1 := Lib.hid hb1; clear ho1 hb1)
      go_roundw
      case rel => exact ⟨k + 1, by omega, by go_num, Lib.hid (by rw [HT.out]; exact HO1.out), Lib.hid (HBW.out.trans HB1.out)⟩
      case measure => simp [intOf]; omega
    · obtain rfl : k = ds.length := by omega
      go_wp2
      go_ret
      obtain ⟨A', c', hv⟩ := own_form hown.out
      subst hv
      have h2 := hown.out
      rw [List.take_of_length_le (Nat.le_refl _)] at h2
      exact ⟨A', c', by rw [List.length_map]; rfl, by rw [List.length_map]; exact h2, hbel.out⟩

/-! ### what a bound does with bits that are not named -/
def bdF (b : Int) : Value := .func (.func (if b = 0 then 81 else if b = 1 then 82 else if b = 2 then 83 else 84)) #[] #[]
set_option maxHeartbeats 400000 in
theorem refuse_any (n m : Int) (w : World) : Calls Try.prog 81 #[.int .i64 n, .int .i64 m] w fun e w' => e = .returned (.tuple #[.int .i64 0, .int .i64 2]) ∧ w = w' := by
  go_enter Try.func81, Try.ntmps81
  go_wp2
  go_ret2
  exact ⟨rfl, rfl⟩
set_option maxHeartbeats 400000 in
theorem leaveOut_any (n m : Nat) (w : World) (hn : n < 4096) (hm : m < 4096) : Calls Try.prog 82 #[.int .i64 n, .int .i64 m] w fun e w' => e = .returned (.tuple #[.int .i64 ((n &&& m : Nat) : Int), .int .i64 0]) ∧ w = w' := by
  have h := i64_and_nat n m (by omega) (by omega)
  go_enter Try.func82, Try.ntmps82
  go_wp2
  go_ret2
  exact ⟨rfl, rfl⟩
set_option maxHeartbeats 400000 in
theorem eject_any (n m : Int) (w : World) : Calls Try.prog 83 #[.int .i64 n, .int .i64 m] w fun e w' => e = .returned (.tuple #[.int .i64 n, .int .i64 1]) ∧ w = w' := by
  go_enter Try.func83, Try.ntmps83
  go_wp2
  go_ret2
  exact ⟨rfl, rfl⟩
set_option maxHeartbeats 400000 in
theorem keep_any (n m : Int) (w : World) : Calls Try.prog 84 #[.int .i64 n, .int .i64 m] w fun e w' => e = .returned (.tuple #[.int .i64 n, .int .i64 0]) ∧ w = w' := by
  go_enter Try.func84, Try.ntmps84
  go_wp2
  go_ret2
  exact ⟨rfl, rfl⟩
end Go.Proofs.Ytlabdkmjdejgcaa
