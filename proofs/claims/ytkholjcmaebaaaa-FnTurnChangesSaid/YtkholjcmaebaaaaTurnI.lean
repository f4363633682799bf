import Derived.RangeFuncBox
import Derived.RangeFuncWrites
import Derived.Shelf.Abstract
import Derived.WalkKit
import Derived.OwnWalkIn
import Derived.TacticsInMore
import Derived.LoopNIn
import Derived.LoopIn
import Derived.Maps.AppendAt
import Derived.Test.YtkholjcmaebaaaaRoundW
import Derived.Test.YtkholjcmaebaaaaTurnW
namespace Go.Proofs.Ytkholjcmaebaaaa
open Go.RowKit Go.Shelf
set_option linter.unusedVariables false
set_option linter.unusedSimpArgs false
set_option maxRecDepth 100000
attribute [local go_sem] Oper.semAt_some

/-! ### slices.Backward over changes -/
/-- What yield is handed: the index and the change. -/
def encX (x : Nat × Ch) : Array Value := #[.int .i64 (x.1 : Int), .agg #[.int .i64 x.2.kind, .string x.2.name, .int .i64 x.2.old, .int .i64 x.2.new]]
/-- What lay below n₀ is as it was, and so is the box B. -/
def KpB (n₀ B : Nat) (W W' : World) : Prop := Below n₀ W W' ∧ W'.heap[B]? = W.heap[B]?

set_option maxHeartbeats 4000000 in
theorem back1_in (F : Fence) (n : Nat) (hf : F.fn 166) (hro : F.round = none) (hn : 1 ≤ n) (l B n₀ c : Nat) (A : Option Addr) (ks : List Ch) (J Jx : List (Nat × Ch) → World → Prop) (hmax : ks.length ≤ 1048576)
    (hY : ∀ pre x W, J pre W → pre.length < ks.length → YieldAt F (n - 1) Try.prog l (encX x) W fun e W' =>
      (e = .returned (.bool true) ∧ J (pre ++ [x]) W' ∧ KpB n₀ B W W') ∨ (e = .returned (.bool false) ∧ Jx (pre ++ [x]) W'))
    (W : World) (hB : Boxed W B 54 (.slice A ks.length c)) (hK : SK W n₀ A ks.length c ks) (h0 : J [] W) :
    CallsIn F n Try.prog 166 #[.func (.yield l) #[] #[], .pointer (some ⟨B, 0, none⟩)] W fun e W' => (∃ v, e = .returned v) ∧
      ((∃ ys : List (Nat × Ch), ys.map Prod.snd = ks.reverse ∧ J ys W') ∨ (∃ pre, True ∧ Jx pre W')) := by
  have hcB := hB.cell
  have hw0 : IntKind.i64.wrap ((ks.length : Int) - 1) = (ks.length : Int) - 1 := by rw [IntKind.wrap_i64]; omega
  refine callsIn_of_wp Try.func166 rfl hf ?_ hro
  simp only [Try.ntmps166, List.size_toArray, List.length_cons, List.length_nil, Nat.reduceAdd, Nat.reduceSub, Array.replicate_succ, Array.replicate_zero, List.push_toArray, List.append_toArray, List.nil_append, List.cons_append]
  gi_wp2
  gi_loopw [3] (fun i wr => ∃ (m : Nat) (pre : List (Nat × Ch)), m ≤ ks.length ∧ i = .int .i64 ((m : Int) - 1) ∧ pre.map Prod.snd = (ks.drop m).reverse ∧ J pre wr ∧ KpB n₀ B W wr) (fun i _ => (intOf i + 1).toNat)
  case atStart => exact ⟨ks.length, [], Nat.le_refl _, rfl, by simp, h0, Below.refl _ _, rfl⟩
  case round =>
    obtain ⟨m, pre, hm, rfl, hpre, hJs, hnx, hbx⟩ := hrel
    have hpl : pre.length + m = ks.length := by have := congrArg List.length hpre; simp at this; omega
    cases m with
    | zero =>
      have hi0 : ¬ (0 : Int) ≤ ((0 : Nat) : Int) - 1 := by omega
      gi_wp2
      go_end0
      exact ⟨⟨_, rfl⟩, .inl ⟨pre, by simpa using hpre, hJs⟩⟩
    | succ m =>
      have hmi : ((m + 1 : Nat) : Int) - 1 = (m : Int) := by omega
      rw [hmi]
      have hmk : m < ks.length := by omega
      obtain ⟨b, o, hA, hb, x1, x2, x3, x4⟩ := (hK.below hnx).at_ hmk
      subst hA
      have hcB2 : wr.cell? ⟨B, 0, none⟩ = some (.slice (some ⟨b, o, none⟩) ks.length c) := Boxed.cell (hbx.trans hB)
      obtain ⟨fn, tmps, assign, body, hy, hR⟩ := hY pre (m, ks[m]) wr hJs (by omega)
      dsimp only [encX] at hy
      have hstep : (ks.drop m).reverse = (ks.drop (m + 1)).reverse ++ [ks[m]] := by rw [List.drop_eq_getElem_cons hmk, List.reverse_cons]
      generalize hkm : ks[m] = km at *
      have hi0 : (0 : Int) ≤ (m : Int) := by omega
      have hi1 : (m : Int) < (ks.length : Int) := by omega
      have hw1 : IntKind.i64.wrap ((m : Int) - 1) = (m : Int) - 1 := by rw [IntKind.wrap_i64]; omega
      gi_wp2
      refine hR.mono ?_
      rintro e W3 (⟨rfl, hJ3, hk3, hk4⟩ | ⟨rfl, hJx3⟩)
      · gi_wp2
        go_roundw
        case rel => exact ⟨m, pre ++ [(m, km)], by omega, rfl, by rw [List.map_append, hpre, hstep]; rfl, hJ3, hnx.trans hk3, hk4.trans hbx⟩
        case measure => simp [intOf]
      · gi_wp2
        refine bodyPost_ret (results_none rfl _ _ _) rfl ?_
        exact ⟨⟨_, rfl⟩, .inr ⟨_, trivial, hJx3⟩⟩
theorem back_in (F : Fence) (n : Nat) (hf : F.fn 110) (hro : F.round = none) (A : Option Addr) (m c : Nat) (w : World) :
    CallsIn F n Try.prog 110 #[.slice A m c] w fun e w' => e = .returned (.func (.func 166) #[] #[.pointer (some ⟨w.heap.size, 0, none⟩)]) ∧ w' = w.alloc (.cells #[.slice A m c] 54) := by
  refine callsIn_of_wp Try.func110 rfl hf ?_ hro
  simp only [Try.ntmps110, List.size_toArray, List.length_cons, List.length_nil, Nat.reduceAdd, Nat.reduceSub, Array.replicate_succ, Array.replicate_zero, List.push_toArray, List.append_toArray, List.nil_append, List.cons_append]
  gi_wp2
  go_ret
  exact ⟨rfl, rfl⟩
theorem back_stops (F : Fence) (n : Nat) (hf : F.fn 166) (hro : F.round = none) (hn : 1 ≤ n) (B n₀ c : Nat) (A : Option Addr) (ks : List Ch) (hmax : ks.length ≤ 1048576) (w : World) (hn₀ : n₀ ≤ w.heap.size)
    (hB : Boxed w B 54 (.slice A ks.length c)) (hK : SK w n₀ A ks.length c ks) :
    SeqStopsK F n Try.prog 166 #[.pointer (some ⟨B, 0, none⟩)] encX (KpB n₀ B) (fun ys => ys.map Prod.snd = ks.reverse) (fun _ => True) ks.length w := fun l J Jx W hW _ _ hY h0 =>
  back1_in F n hf hro hn l B n₀ c A ks J Jx hmax hY W ((hW.block B hB.lt).trans hB) (hK.below (hW.mono hn₀)) h0
theorem turnedKind_any (k : Int) (w : World) : Calls Try.prog 111 #[.int .i64 k] w fun e w' => e = .returned (.int .i64 (turnKd k)) ∧ w' = w := by
  go_enter Try.func111, Try.ntmps111
  by_cases h0 : k = 0
  · subst h0
    go_wp2
    go_ret
    exact ⟨rfl, rfl⟩
  · have e0 : (k == 0) = false := by rw [beq_eq_false_iff_ne]; exact h0
    by_cases h1 : k = 1
    · subst h1
      go_wp2
      go_ret
      exact ⟨rfl, rfl⟩
    · have e1 : (k == 1) = false := by rw [beq_eq_false_iff_ne]; exact h1
      have e2 : turnKd k = k := by unfold turnKd; rw [if_neg h0, if_neg h1]
      rw [e2]
      clear h0 h1 e2
      go_wp2
      go_ret
      exact ⟨rfl, rfl⟩
end Go.Proofs.Ytkholjcmaebaaaa
