import Derived.Test.YtpmanbmhbfnefaaGenW
import Derived.Test.YtpmanbmhbfnefaaGenI
import Derived.Test.YtpmanbmhbfnefaaAppW
namespace Go.Proofs.Ytpmanbmhbfnefaa
open Go.RowKit
set_option linter.unusedVariables false
set_option linter.unusedSimpArgs false
set_option maxRecDepth 100000

/-- 'append(out, x)', x one text: the row behind it, and what of the world is as it was. -/
theorem wpList_app_Sk {W : World} {ops : Array Oper} {rest : List Oper} {o : Oper} {a : Act} {Q : Exit → Act → World → Prop} (hgd : o.guard = none) (s x : Operand) (ho : o.op = .call { callee := .builtin .append, args := #[s, x], argTypes := #[49, 49] })
    (base : Nat) (v : Value) (n : Nat) (xs : List Value) (hs : a.eval s = v) (hown : W.ownsRow base 9 1 v n xs) (nm : ByteArray)
    (c g : Nat) (hx : a.eval x = .slice (some ⟨g, 0, none⟩) 1 c) (hgw : g = W.heap.size) (hn : n ≤ 2000000) (hbase : base ≤ W.heap.size)
    (h : ∀ v' w', w'.ownsRow base 9 1 v' (n + 1) (xs ++ [.string nm]) → W.grownBy w' v.ownBlock → wpList Try.prog ops Q rest (a.put o.dst v') w') :
    wpList Try.prog ops Q (o :: rest) a (W.alloc (.cells #[.string nm] 9)) := by
  subst hgw
  obtain ⟨i0, hi, hz0, hz1, hz2⟩ := info_parts info_S
  refine wpList_append_own _ hgd s x _ ho base _ i0 _ 1 16 Try.underlying49 hi hz0 hz1 hz2 rfl (by omega) v n xs hs (hown.alloc _) ⟨W.heap.size, 0, none⟩ 1 c [.string nm] hx rfl
    (World.news_of_block (heap_alloc_new W _)) (by simp [Value.oneCell']) (by unfold maxLen; omega) (by omega) (by simp; omega) ?_
  intro v' w' h2 h3 _
  exact h v' w' h2 ((World.grownBy_alloc W _ _).trans h3)
/-- A drawn list of names, and the reader behind it. -/
def NamesP (R B : Nat) (A : Option Addr) (cb : Nat) (zs : List Int) (p : Nat) (w : World) (e : Ending) (w' : World) : Prop :=
  ∃ (A' : Option Addr) (c : Nat) (ss : List ByteArray) (p' : Nat), e = .returned (.slice A' ss.length c) ∧ ss.length ≤ 3 ∧ (∀ s ∈ ss, s.size ≤ 100) ∧
    w'.ownsRow w.heap.size 9 1 (.slice A' ss.length c) ss.length (ss.map .string) ∧ p' ≤ p + 20 ∧ w.grownBy w' (some R) ∧ Rdr w' R B A cb zs p'
end Go.Proofs.Ytpmanbmhbfnefaa
