import Derived.Test.YtlabdkmjdejgcaaDefs
import Derived.StillTailTactics
import Derived.Deep.RegionHeld3
import Derived.WalkSmall
namespace Go.Proofs.Ytlabdkmjdejgcaa
open Go.RowKit
set_option linter.unusedVariables false
set_option maxRecDepth 100000

/-! ### the model's ValidEnum -/

/-! ### the law's copies -/
set_option maxHeartbeats 400000 in
theorem toDef_any (s : ByteArray) (v : Int) (w : World) :
    Calls Try.prog 70 #[.agg #[.string s, .int .i64 v]] w fun e w' => e = .returned (.agg #[.string s, .int .i64 v]) ∧ Below w.heap.size w w' := by
  go_enter Try.func70, Try.ntmps70
  go_wp2
  exact bodyPost_ret (v := .agg #[.string s, .int .i64 v]) (by simp [results, Try.results70, go_sem]) rfl ⟨rfl, by
    refine ((((Below.refl _ _).alloc (Nat.le_refl _) _).alloc (by simp) _).alloc (by simp; omega) _)⟩

set_option maxHeartbeats 400000 in
theorem eqDef_any (s : ByteArray) (v : Int) (w : World) :
    Calls Try.prog 74 #[.agg #[.string s, .int .i64 v], .agg #[.string s, .int .i64 v]] w fun e w' => e = .returned (.bool true) ∧ Below w.heap.size w w' := by
  go_enter Try.func74, Try.ntmps74
  go_wp2
  go_ret
  exact ⟨rfl, ((Below.refl _ _).alloc (Nat.le_refl _) _).alloc (by simp) _⟩

def SzP (left n : Int) (w : World) (e : Ending) (w' : World) : Prop := ∃ r : Int, e = .returned (.int .i64 r) ∧ -1 ≤ r ∧ r ≤ left ∧ (0 ≤ r → n ≤ left) ∧ Below w.heap.size w w'
set_option maxHeartbeats 400000 in
theorem szDef_any (s : ByteArray) (v left : Int) (w : World) (hs : s.size ≤ maxLen) (h0 : 0 ≤ left) (h1 : left ≤ 1048576) :
    Calls Try.prog 66 #[.agg #[.string s, .int .i64 v], .int .i64 left] w (SzP left 0 w) := by
  unfold maxLen at hs
  by_cases h : left - s.size < 0
  all_goals
    go_enter Try.func66, Try.ntmps66
    go_wp2
    go_ret
    exact ⟨_, rfl, by omega, by omega, fun _ => h0, (Below.refl _ _).alloc (Nat.le_refl _) _⟩

theorem szDef_v {s : ByteArray} {v left : Int} {w : World} (hs : s.size ≤ maxLen) (h0 : 0 ≤ left) (h1 : left ≤ 1048576) :
    Calls Try.prog 66 #[.agg #[.string s, .int .i64 v], .int .i64 left] w fun e w' => SzP left 0 w e w' := szDef_any s v left w hs h0 h1

set_option maxHeartbeats 400000 in
theorem szDefS_any (ds : List D) (A : Option Addr) (c n : Nat) (left : Int) (w : World) (hr : SD w w.heap.size A n c ds) (h0 : 0 ≤ left) (h1 : left ≤ 1048576) :
    Calls Try.prog 35 #[.slice A n c, .int .i64 left] w (SzP left n w) := by
  obtain rfl := hr.len
  have hl := hr.max
  have hl2 := hr.cap
  unfold maxLen at hl
  have HR := Lib.hid hr
  clear hr
  by_cases hlen : left - ds.length < 0
  · go_enter Try.func35, Try.ntmps35
    go_wp2
    go_ret
    exact ⟨_, rfl, by omega, by omega, fun h => absurd h (by omega), Below.refl _ _⟩
  · go_enter Try.func35, Try.ntmps35
    go_wp2
    go_loopw [1, 5] (fun lf i wr => ∃ (k : Nat) (r : Int), k ≤ ds.length ∧ i = .int .i64 k ∧ lf = .int .i64 r ∧ 0 ≤ r ∧ r ≤ left ∧ Hid (Below w.heap.size w wr)) (fun _ i _ => ds.length - (intOf i).toNat)
    case atStart => exact ⟨0, _, Nat.zero_le _, rfl, rfl, by omega, by omega, Lib.hid (Below.refl _ _)⟩
    case round =>
      obtain ⟨k, r, hk, rfl, rfl, hr0, hr1, hbel⟩ := hrel
      by_cases hlt : k < ds.length
      · obtain ⟨b, o, rfl, hb, c1, c2⟩ := (HR.out.below hbel.out).at_ hlt
        have HN := Lib.hid (HR.out.ok _ (List.getElem_mem hlt)).1
        go_wp2_with (go_at_call 66; refine (szDef_v HN.out (by omega) (by omega)).mono ?_; rintro e w1 ⟨r1, rfl, hq0, hq1, hq2, hb1⟩; have HB1 := Lib.hid hb1; clear hb1 hq2)
        · go_ret
          exact ⟨_, rfl, by omega, by omega, fun h => absurd h (by omega), hbel.out.trans (HB1.out.mono hbel.out.size)⟩
        · go_roundw
          case rel => exact ⟨k + 1, r1, by omega, by go_num, rfl, by omega, by omega, Lib.hid (hbel.out.trans (HB1.out.mono hbel.out.size))⟩
          case measure => simp [intOf]; omega
      · obtain rfl : k = ds.length := by omega
        go_wp2
        go_ret
        exact ⟨_, rfl, by omega, by omega, fun _ => by omega, hbel.out⟩

set_option maxHeartbeats 1000000 in
theorem eqDefS_any (ds : List D) (A A2 : Option Addr) (c c2 n n2 : Nat) (w : World) (hr : SD w w.heap.size A n c ds) (hr2 : SD w w.heap.size A2 n2 c2 ds) :
    Calls Try.prog 42 #[.slice A n c, .slice A2 n2 c2] w fun e w' => e = .returned (.bool true) ∧ Below w.heap.size w w' := by
  obtain rfl := hr.len
  obtain rfl := hr2.len
  have hl := hr.max
  have hl2 := hr.cap
  unfold maxLen at hl
  have HR := Lib.hid hr
  have HR2 := Lib.hid hr2
  clear hr hr2
  go_enter Try.func42, Try.ntmps42
  go_wp2
  go_loopw [5] (fun i wr => ∃ (k : Nat), k ≤ ds.length ∧ i = .int .i64 k ∧ Hid (Below w.heap.size w wr)) (fun i _ => ds.length - (intOf i).toNat)
  case atStart => exact ⟨0, Nat.zero_le _, rfl, Lib.hid (Below.refl _ _)⟩
  case round =>
    obtain ⟨k, hk, rfl, hbel⟩ := hrel
    by_cases hlt : k < ds.length
    · obtain ⟨b, o, rfl, hb, c1, c2⟩ := (HR.out.below hbel.out).at_ hlt
      obtain ⟨b', o', rfl, hb', c1', c2'⟩ := (HR2.out.below hbel.out).at_ hlt
      have hi1 : (k : Int) < (ds.length : Int) := by omega
      go_wp2
      go_still_tail 8, (by kernel_rfl)
      change wpList _ _ _ _ _ wr.drew
      generalize hwd : wr.drew = wd
      have HW := Lib.hid hwd
      clear hwd
      go_wp2_with (go_at_call 74; refine (eqDef_any _ _ _).mono ?_; rintro e w1 ⟨rfl, hb1⟩; have HB1 := Lib.hid hb1; clear hb1)
      go_roundw
      case rel => exact ⟨k + 1, by omega, by go_num, Lib.hid (by obtain rfl := HW.out; exact hbel.out.drew.trans (HB1.out.mono hbel.out.size))⟩
      case measure => simp [intOf]; omega
    · obtain rfl : k = ds.length := by omega
      go_wp2
      go_ret
      exact ⟨rfl, hbel.out⟩

end Go.Proofs.Ytlabdkmjdejgcaa
