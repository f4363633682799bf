import Derived.Test.YtiebdhbioccogaaGreatDoorBaseB
import Derived.Test.YtiebdhbioccogaaGreatDoorItemsC
namespace Go.Proofs.YtiebdhbioccogaaGreatDoor
open Go.RowKit
set_option linter.unusedVariables false
set_option maxRecDepth 100000

/-- Rows of two types lie in two blocks. -/
theorem own_ne_type {w : World} {base base' : Nat} {e e' : TypeId} {sz sz' : Nat} {v v' : Value} {n n' : Nat} {xs xs' : List Value} (h : w.ownsRow base e sz v n xs) (h' : w.ownsRow base' e' sz' v' n' xs') (hne : e ≠ e') : v.ownBlock = none ∨ v.ownBlock ≠ v'.ownBlock := by
  rcases h.2 with ⟨rfl, _⟩ | ⟨g, cap, cur, rfl, _, hg, _⟩
  · exact .inl rfl
  · refine .inr (fun e1 => ?_)
    rcases h'.2 with ⟨rfl, _⟩ | ⟨g', cap', cur', rfl, _, hg', _⟩
    · simp [Value.ownBlock] at e1
    · simp [Value.ownBlock] at e1
      subst e1
      rw [hg] at hg'
      injection hg' with hg'
      injection hg' with _ q2
      exact hne q2
/-- 'append(out, x)', x one item. -/
theorem wpList_app_T {W : World} {ops : Array Oper} {rest : List Oper} {o : Oper} {a : Act} {Q : Exit → Act → World → Prop} (hgd : o.guard = none) (s x : Operand) (ho : o.op = .call { callee := .builtin .append, args := #[s, x], argTypes := #[56, 56] })
    (base : Nat) (v : Value) (n : Nat) (xs : List Value) (hs : a.eval s = v) (hown : W.ownsRow base 103 3 v n xs) (nm : ByteArray) (au : Bool) (vl : Int)
    (c g : Nat) (hx : a.eval x = .slice (some ⟨g, 0, none⟩) 1 c) (hgw : g = W.heap.size) (hn : n ≤ 2000000) (hbase : base ≤ W.heap.size)
    (h : ∀ v' w', w'.ownsRow base 103 3 v' (n + 1) (xs ++ [.string nm, .bool au, .int .i64 vl]) → W.grownBy w' v.ownBlock → wpList Tryz.prog ops Q rest (a.put o.dst v') w') :
    wpList Tryz.prog ops Q (o :: rest) a (W.alloc (.cells #[.string nm, .bool au, .int .i64 vl] 103)) := by
  obtain ⟨i0, hi, hz0, hz1, hz2⟩ := info_parts info_T
  subst hgw
  refine wpList_append_own _ hgd s x _ ho base _ i0 _ 3 32 Tryz.underlying56 hi hz0 hz1 hz2 rfl (by omega) v n xs hs (hown.alloc _) ⟨W.heap.size, 0, none⟩ 1 c [.string nm, .bool au, .int .i64 vl] hx rfl
    (World.news_of_block (heap_alloc_new W _)) (by simp [Value.oneCell']) (by unfold maxLen; omega) (by omega) (by simp; omega) ?_
  intro v' w' h2 h3 _
  exact h v' w' h2 ((World.grownBy_alloc _ _ _).trans h3)
/-- .. the same, as one step of a region that draws its order. -/
theorem step_app_T {W : World} {ops : Array Oper} {o : Oper} {a : Act} {K : Act → World → Prop} {Q : Exit → Act → World → Prop} {E : Prop} (hgd : o.guard = none) (s x : Operand) (ho : o.op = .call { callee := .builtin .append, args := #[s, x], argTypes := #[56, 56] })
    (base : Nat) (v : Value) (n : Nat) (xs : List Value) (hs : a.eval s = v) (hown : W.ownsRow base 103 3 v n xs) (nm : ByteArray) (au : Bool) (vl : Int)
    (c g : Nat) (hx : a.eval x = .slice (some ⟨g, 0, none⟩) 1 c) (hblk : W.heap[g]? = some (.cells #[.string nm, .bool au, .int .i64 vl] 103 (0, 0))) (hn : n ≤ 2000000) (hbase : base ≤ W.heap.size)
    (hK : ∀ v' w', w'.ownsRow base 103 3 v' (n + 1) (xs ++ [.string nm, .bool au, .int .i64 vl]) → W.grownBy w' v.ownBlock → K (a.put o.dst v') w') :
    if Region.wanted o (yielded ops a.tmps) = true then Oper.wp Tryz.prog o a W K Q else E := by
  have hw : Region.wanted o (yielded ops a.tmps) = true := by simp [Region.wanted, hgd]
  rw [if_pos hw]
  obtain ⟨i0, hi, hz0, hz1, hz2⟩ := info_parts info_T
  exact wp_append_own _ s x _ ho base _ i0 _ 3 32 Tryz.underlying56 hi hz0 hz1 hz2 rfl (by omega) v n xs hs hown ⟨g, 0, none⟩ 1 c [.string nm, .bool au, .int .i64 vl] hx rfl
    (World.news_of_block hblk) (by simp [Value.oneCell']) (by unfold maxLen; omega) (by omega) hbase (fun v' w' h2 h3 _ => hK v' w' h2 h3)
theorem flatT_set (ts : List It) (k : Nat) (hk : k < ts.length) (t : It) : (((flatT ts).set (k * 3) (.string t.name)).set (k * 3 + 1) (.bool t.auto)).set (k * 3 + 2) (.int .i64 t.val) = flatT (ts.set k t) := by
  induction ts generalizing k with
  | nil => simp at hk
  | cons d r ih =>
    cases k with
    | zero => simp [flatT_cons]
    | succ k =>
      have := ih k (by simpa using hk)
      rw [show (k + 1) * 3 = k * 3 + 1 + 1 + 1 from by omega, show k * 3 + 1 + 1 + 1 + 1 = (k * 3 + 1) + 1 + 1 + 1 from rfl, show k * 3 + 1 + 1 + 1 + 2 = (k * 3 + 2) + 1 + 1 + 1 from rfl]
      simp only [flatT_cons, List.set_cons_succ]
      rw [this]
end Go.Proofs.YtiebdhbioccogaaGreatDoor
