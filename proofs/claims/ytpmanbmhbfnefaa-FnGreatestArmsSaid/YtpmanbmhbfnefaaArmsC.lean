import Derived.Test.YtpmanbmhbfnefaaArms
import Derived.Test.YtpmanbmhbfnefaaBaseC
namespace Go.Proofs.Ytpmanbmhbfnefaa
open Go.RowKit
set_option linter.unusedVariables false
set_option maxRecDepth 100000

set_option maxHeartbeats 1000000 in
theorem eqArm_any (x y : Int) (w : World) :
    Calls Try.prog 78 #[.agg #[.int .i64 x, .int .i64 y], .agg #[.int .i64 x, .int .i64 y]] w fun e w' => e = .returned (.bool true) ∧ Below w.heap.size w w' := by
  go_enter Try.func78, Try.ntmps78
  go_wp2
  go_ret
  exact ⟨rfl, ((Below.refl _ _).alloc (Nat.le_refl _) _).alloc (by simp) _⟩


set_option maxHeartbeats 2000000 in
theorem eqArmS_any (ts : List Ar) (A A2 : Option Addr) (c c2 n n2 : Nat) (w : World) (hr : SA w w.heap.size A n c ts) (hr2 : SA w w.heap.size A2 n2 c2 ts) :
    Calls Try.prog 29 #[.slice A n c, .slice A2 n2 c2] w fun e w' => e = .returned (.bool true) ∧ Below w.heap.size w w' := by
  obtain rfl := hr.len
  obtain rfl := hr2.len
  have hl := hr.max
  have hl2 := hr.cap
  unfold maxLen at hl
  have HR := Lib.hid hr
  have HR2 := Lib.hid hr2
  clear hr hr2
  go_enter Try.func29, Try.ntmps29
  go_wp2
  go_loopw [5] (fun i wr => ∃ (k : Nat), k ≤ ts.length ∧ i = .int .i64 k ∧ Hid (Below w.heap.size w wr)) (fun i _ => ts.length - (intOf i).toNat)
  case atStart => exact ⟨0, Nat.zero_le _, rfl, Lib.hid (Below.refl _ _)⟩
  case round =>
    obtain ⟨k, hk, rfl, hbel⟩ := hrel
    by_cases hlt : k < ts.length
    · obtain ⟨b, o, rfl, hb, c1, c2⟩ := (HR.out.below hbel.out).at_ hlt
      obtain ⟨b', o', rfl, hb', c1', c2'⟩ := (HR2.out.below hbel.out).at_ hlt
      have hi1 : (k : Int) < (ts.length : Int) := by omega
      go_wp2
      go_still_tail 8, (by kernel_rfl)
      change wpList _ _ _ _ _ wr.drew
      generalize hwd : wr.drew = wd
      have HW := Lib.hid hwd
      clear hwd
      go_wp2_with (go_at_call 78; refine (eqArm_any _ _ _).mono ?_; rintro e w1 ⟨rfl, hb1⟩; have HB1 := Lib.hid hb1; clear hb1)
      go_roundw
      case rel => exact ⟨k + 1, by omega, by go_num, Lib.hid (by obtain rfl := HW.out; exact hbel.out.drew.trans (HB1.out.mono hbel.out.size))⟩
      case measure => simp [intOf]; omega
    · obtain rfl : k = ts.length := by omega
      go_wp2
      go_ret
      exact ⟨rfl, hbel.out⟩

def CopyA (n : Nat) (ts : List Ar) (w : World) (e : Ending) (w' : World) : Prop :=
  ∃ g, e = .returned (.slice (some ⟨g, 0, none⟩) n n) ∧ w'.ownsRow w.heap.size 72 2 (.slice (some ⟨g, 0, none⟩) n n) n (ts.flatMap encA) ∧ Below w.heap.size w w'


/-! ### marks -/
def marksA (k0 : Int) (k : Nat) : List Value := (List.range k).flatMap fun i => [.int .i64 (k0 + 2 * (i : Nat)), .int .i64 (k0 + 2 * (i : Nat) + 1)]
theorem marksA_succ (k0 : Int) (k : Nat) : marksA k0 (k + 1) = marksA k0 k ++ [.int .i64 (k0 + 2 * k), .int .i64 (k0 + 2 * k + 1)] := by
  unfold marksA; rw [List.range_succ, List.flatMap_append]; simp
theorem marksA_length (k0 : Int) (k : Nat) : (marksA k0 k).length = k * 2 := by
  induction k with
  | zero => rfl
  | succ k ih => rw [marksA_succ]; simp [ih]; omega
theorem marksA_get (k0 : Int) (n k : Nat) (h : k < n) : (marksA k0 n)[k * 2]? = some (.int .i64 (k0 + 2 * k)) ∧ (marksA k0 n)[k * 2 + 1]? = some (.int .i64 (k0 + 2 * k + 1)) := by
  induction n with
  | zero => omega
  | succ n ih =>
    rw [marksA_succ]
    by_cases e : k = n
    · subst e
      rw [List.getElem?_append_right (by rw [marksA_length]; omega), List.getElem?_append_right (by rw [marksA_length]; omega), marksA_length]
      simp
    · rw [List.getElem?_append_left (by rw [marksA_length]; omega), List.getElem?_append_left (by rw [marksA_length]; omega)]
      exact ih (by omega)

set_option maxHeartbeats 4000000 in
theorem markArmS_any (k0 : Int) (base : Nat) (A : Option Addr) (c n : Nat) (xs : List Value) (w : World) (h : w.ownsRow base 72 2 (.slice A n c) n xs) (h0 : 0 < k0) (h1 : k0 + 2 * n ≤ 7000000) :
    Calls Try.prog 32 #[.slice A n c, .int .i64 k0] w (MarkP base 72 2 (.slice A n c) n (k0 + 2 * n) (marksA k0 n) w) := by
  have HO := Lib.hid h
  clear h
  go_enter Try.func32, Try.ntmps32
  go_wp2
  go_loopw [1, 5] (fun kk i wr => ∃ (k : Nat) (ys : List Value), k ≤ n ∧ i = .int .i64 k ∧ kk = .int .i64 (k0 + 2 * k) ∧ Hid (wr.ownsRow base 72 2 (.slice A n c) n ys) ∧ Hid (ys.take (k * 2) = marksA k0 k) ∧ Hid (w.grownBy wr (Value.slice A n c).ownBlock)) (fun _ i _ => n - (intOf i).toNat)
  case atStart => exact ⟨0, xs, Nat.zero_le _, rfl, by simp, HO, Lib.hid rfl, Lib.hid (World.grownBy.refl _ _)⟩
  case round =>
    obtain ⟨k, ys, hk, rfl, rfl, hown, htake, hgr⟩ := hrel
    by_cases hlt : k < n
    · obtain ⟨g, rfl, hbg, hgl⟩ := own_addr hown.out (by omega)
      have HM := Lib.hid (marksA_succ k0 k)
      have HL := Lib.hid hown.out.1
      have hf0 := hown.out.frozenAt (k * 2)
      obtain ⟨y0, hx0⟩ := own_cell hown.out (k * 2) (by omega)
      have hf1 := hown.out.frozenAt (k * 2 + 1)
      obtain ⟨y1, hx1⟩ := own_cell hown.out (k * 2 + 1) (by omega)
      have hs1 := hown.out.stored (k * 2) (.int .i64 (k0 + 2 * k))
      have hs2 := hs1.1.stored (k * 2 + 1) (.int .i64 (k0 + 2 * k + 1))
      have HSZ := Lib.hid (show ys.length = n * 2 from hown.out.1)
      have HS1 := Lib.hid hs1
      have HS2 := Lib.hid hs2
      clear hs1 hs2
      go_wp2
      go_roundw
      case rel => exact ⟨k + 1, _, by omega, by go_num, by first | go_num | (congr 1; push_cast; omega), Lib.hid HS2.out.1, Lib.hid (by rw [HM.out]; exact take_two htake.out (by rw [HL.out]; omega)), Lib.hid ((hgr.out.trans HS1.out.2).trans HS2.out.2)⟩
      case measure => simp [intOf]; omega
    · obtain rfl : k = n := by omega
      go_wp2
      go_ret
      refine ⟨rfl, ?_, hgr.out⟩
      have e1 := htake.out
      rw [List.take_of_length_le (by rw [hown.out.1]; omega)] at e1
      rw [← e1]
      exact hown.out
end Go.Proofs.Ytpmanbmhbfnefaa
