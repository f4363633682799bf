import Derived.RangeFuncBox
import Derived.RangeFuncNested
import Derived.Deep.DeepCutAuto
import Derived.Test.YtpmanbmhbfnefaaFewP
import Derived.Test.YtpmanbmhbfnefaaAlgI
import Derived.Test.YtpmanbmhbfnefaaBaseE
import Derived.Test.YtpmanbmhbfnefaaBaseB
import Derived.Laws.EntriesVeiled
import Derived.Test.YtpmanbmhbfnefaaBaseS
import Derived.Test.YtpmanbmhbfnefaaFitK
namespace Go.Proofs.Ytpmanbmhbfnefaa
open Go.RowKit
set_option linter.unusedVariables false
set_option linter.unusedSimpArgs false
set_option maxRecDepth 100000

theorem flatAp (xs ys : List D) : flat (xs ++ ys) = flat xs ++ flat ys := by unfold flat; rw [List.flatMap_append]
theorem step_app_Df {W : World} {ops : Array Oper} {o : Oper} {a : Act} {K : Act → World → Prop} {Q : Exit → Act → World → Prop} {E : Prop} (hgd : o.guard = none) (s x : Operand) (ho : o.op = .call { callee := .builtin .append, args := #[s, x], argTypes := #[123, 123] })
    (base : Nat) (v : Value) (n : Nat) (xs : List Value) (hs : a.eval s = v) (hown : W.ownsRow base 48 2 v n xs) (nm : ByteArray) (vl : Int)
    (c g : Nat) (hx : a.eval x = .slice (some ⟨g, 0, none⟩) 1 c) (hblk : W.heap[g]? = some (.cells #[.string nm, .int .i64 vl] 48 (0, 0))) (hn : n ≤ 2000000) (hbase : base ≤ W.heap.size)
    (hK : ∀ v' w', w'.ownsRow base 48 2 v' (n + 1) (xs ++ [.string nm, .int .i64 vl]) → W.grownBy w' v.ownBlock → K (a.put o.dst v') w') :
    if Region.wanted o (yielded ops a.tmps) = true then Oper.wp Try.prog o a W K Q else E := by
  have hw : Region.wanted o (yielded ops a.tmps) = true := by simp [Region.wanted, hgd]
  rw [if_pos hw]
  obtain ⟨i0, hi, hz0, hz1, hz2⟩ := info_parts info_D
  exact wp_append_own _ s x _ ho base _ i0 _ 2 24 Try.underlying123 hi hz0 hz1 hz2 rfl (by omega) v n xs hs hown ⟨g, 0, none⟩ 1 c [.string nm, .int .i64 vl] hx rfl
    (World.news_of_block hblk) (by simp [Value.oneCell']) (by unfold maxLen; omega) (by omega) hbase (fun v' w' h2 h3 _ => hK v' w' h2 h3)
/-- An owned row without its last definition. -/
theorem own_trunc {w : World} {base n c : Nat} {e : TypeId} {A : Option Addr} {xs ys : List Value} (h : w.ownsRow base e 2 (.slice A (n + 1) c) (n + 1) (xs ++ ys)) (hx : xs.length = n * 2) : w.ownsRow base e 2 (.slice A n c) n xs := by
  refine ⟨hx, ?_⟩
  rcases h.2 with ⟨_, h2⟩ | ⟨g, cap, cur, h1, hb, hg, hc, hm, hs, ht⟩
  · cases h2
  · injection h1 with e1 e2 e3
    subst e1 e3
    refine .inr ⟨g, _, cur, rfl, hb, hg, by omega, hm, hs, ?_⟩
    have := congrArg (List.take (n * 2)) ht
    rw [List.take_take, List.take_left' hx, Nat.min_eq_left (by omega)] at this
    exact this
theorem runDf_to (A : Option Addr) (n c k : Nat) (hk : k ≤ c) (W : World) :
    (Instr.slice 123 (.slice A n c) none (some (.int .i64 (k : Int))) none).run Try.prog W = .ok (.slice A k c) W := by
  have hi : (k : Int) ≤ (c : Int) := by omega
  have h0 : (0 : Int) ≤ (k : Int) := by omega
  rw [run_slice_h (P := Try.prog) W 123 A n c (by kernel_rfl) .i64 (k : Int) h0 hi]
  have hs : (sizeOf (Try.prog.elem 123)).run Try.prog W = .ok 2 W := by kernel_rfl
  rw [hs]
  cases A <;> simp [Result.andThen, sliced, Addr.add]
end Go.Proofs.Ytpmanbmhbfnefaa

namespace Go.Proofs.Ytpmanbmhbfnefaa
open Go.RowKit
set_option linter.unusedVariables false
set_option linter.unusedSimpArgs false
set_option maxRecDepth 100000

/-- Definitions in a slice, wherever it lies. -/
def SdP (ms : List D) (w : World) (e : Ending) (w' : World) : Prop :=
  ∃ A c, e = .returned (.slice A ms.length c) ∧ SD w' w'.heap.size A ms.length c ms ∧ Below w.heap.size w w'
end Go.Proofs.Ytpmanbmhbfnefaa

namespace Go.Proofs.Ytpmanbmhbfnefaa
open Go.RowKit Go.Shelf
set_option linter.unusedVariables false
set_option linter.unusedSimpArgs false
set_option maxRecDepth 100000
attribute [local go_sem] Oper.semAt_some

theorem wpListIn_app_Dw {F : Fence} {k : Nat} {W : World} {ops : Array Oper} {rest : List Oper} {o : Oper} {a : Act} {Q : Exit → Act → World → Prop} (t : TypeId) (ht : Try.prog.underlying t = some (.slice 48)) (hgd : o.guard = none) (s x : Operand) (ho : o.op = .call { callee := .builtin .append, args := #[s, x], argTypes := #[t, t] })
    (base : Nat) (v : Value) (n : Nat) (xs : List Value) (hs : a.eval s = v) (hown : W.ownsRow base 48 2 v n xs) (nm : ByteArray) (vl : Int)
    (c g : Nat) (hx : a.eval x = .slice (some ⟨g, 0, none⟩) 1 c) (hgw : g = W.heap.size) (hn : n ≤ 2000000) (hbase : base ≤ W.heap.size)
    (h : ∀ v' w', w'.ownsRow base 48 2 v' (n + 1) (xs ++ [.string nm, .int .i64 vl]) → (W.alloc (.cells #[.string nm, .int .i64 vl] 48)).grownBy w' v.ownBlock → Where W v v' → wpListIn F k Try.prog ops Q rest (a.put o.dst v') w') :
    wpListIn F k Try.prog ops Q (o :: rest) a (W.alloc (.cells #[.string nm, .int .i64 vl] 48)) := by
  subst hgw
  refine wpListIn_plain hgd fun K hK' => ?_
  obtain ⟨v', w', hr, h2, h3, h4⟩ := run_app_Dw _ base t o.type ht v n xs (hown.alloc (.cells #[.string nm, .int .i64 vl] 48)) nm vl W.heap.size c (heap_alloc_new W _) hn (by simp; omega)
  unfold Oper.wpIn
  constructor
  · simp [Oper.about, ho, resolve, Target.leads, Sem.run_pure]
  · rw [Oper.semAt_plain F _ _ (by intro c hc; rw [ho] at hc; cases hc)]
    simp [execOp, ho, resolve, invoke, builtin, hs, hx, hr, Result.andThen]
    exact hK' _ _ (h v' w' h2 h3 (fun q hq hne => h4 q (by simp; omega) hne))

end Go.Proofs.Ytpmanbmhbfnefaa

