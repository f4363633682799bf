import Derived.Test.YtiebdhbioccogaaGreatDoorOpenS
namespace Go.Proofs.YtiebdhbioccogaaGreatDoor
open Go.ChangeShapes Go.WideShapes Go.ChangeAt Go.RowKit Go.Deep Go.Joins
set_option linter.unusedVariables false
set_option maxRecDepth 100000

def SzL (left n : Int) (ss : List ByteArray) (w : World) (e : Ending) (w' : World) : Prop := ∃ r : Int, e = .returned (.int .i64 r) ∧ -1 ≤ r ∧ r ≤ left ∧ (0 ≤ r → n ≤ left ∧ ∀ x ∈ ss, (x.size : Int) ≤ left) ∧ Below w.heap.size w w'
set_option maxHeartbeats 400000 in
theorem szStringS_sz (ss : List ByteArray) (A : Option Addr) (c n : Nat) (left : Int) (w : World) (hr : SS w w.heap.size A n c ss) (h0 : 0 ≤ left) (h1 : left ≤ 1048576) :
    Calls Tryz.prog 5 #[.slice A n c, .int .i64 left] w (SzL left n ss w) := by
  obtain rfl := hr.len
  have hl := hr.max
  have hl2 := hr.cap
  unfold maxLen at hl
  have HR := Lib.hid hr
  clear hr
  by_cases hlen : left - ss.length < 0
  · go_enter Tryz.func5, Tryz.ntmps5
    go_wp2
    go_ret
    exact ⟨_, rfl, by omega, by omega, fun h => absurd h (by omega), Below.refl _ _⟩
  · go_enter Tryz.func5, Tryz.ntmps5
    go_wp2
    go_loopw [1, 5] (fun lf i wr => ∃ (k : Nat) (r : Int), k ≤ ss.length ∧ i = .int .i64 k ∧ lf = .int .i64 r ∧ 0 ≤ r ∧ r ≤ left ∧ Hid (∀ x ∈ ss.take k, (x.size : Int) ≤ left) ∧ Hid (Below w.heap.size w wr)) (fun _ i _ => ss.length - (intOf i).toNat)
    case atStart => exact ⟨0, _, Nat.zero_le _, rfl, rfl, by omega, by omega, Lib.hid (by simp), Lib.hid (Below.refl _ _)⟩
    case round =>
      obtain ⟨k, r, hk, rfl, rfl, hr0, hr1, hall, hbel⟩ := hrel
      by_cases hlt : k < ss.length
      · obtain ⟨b, o, rfl, hb, c1⟩ := (HR.out.below hbel.out).at_ hlt
        have hi1 : (k : Int) < (ss.length : Int) := by omega
        have hsz := HR.out.ok _ (List.getElem_mem hlt)
        unfold maxLen at hsz
        by_cases hneg : r - (ss[k].size : Int) < 0
        · go_wp2
          go_ret
          exact ⟨_, rfl, by omega, by omega, fun h => absurd h (by omega), hbel.out⟩
        · have HN2 : Hid (∀ x ∈ ss.take (k + 1), (x.size : Int) ≤ left) := Lib.hid (by
            intro x hx
            rw [List.take_succ_eq_append_getElem hlt] at hx
            rcases List.mem_append.1 hx with h | h
            · exact hall.out x h
            · obtain rfl := List.mem_singleton.1 h
              omega)
          go_wp2
          go_roundw
          case rel => exact ⟨k + 1, r - (ss[k].size : Int), by omega, by go_num, by first | rfl | go_num, by omega, by omega, HN2, hbel⟩
          case measure => simp [intOf]; omega
      · obtain rfl : k = ss.length := by omega
        go_wp2
        go_ret
        exact ⟨_, rfl, by omega, by omega, fun _ => ⟨by omega, fun x hx => hall.out x (by rw [List.take_of_length_le (Nat.le_refl _)]; exact hx)⟩, hbel.out⟩
end Go.Proofs.YtiebdhbioccogaaGreatDoor
