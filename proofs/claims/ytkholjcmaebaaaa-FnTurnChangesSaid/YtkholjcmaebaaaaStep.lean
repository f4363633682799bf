import Derived.Test.YtkholjcmaebaaaaCatK
import Derived.Test.YtkholjcmaebaaaaBaseC
import Derived.Test.YtkholjcmaebaaaaDiffP
import Derived.Test.YtkholjcmaebaaaaAppW
namespace Go.Proofs.Ytkholjcmaebaaaa
open Go.RowKit
set_option linter.unusedVariables false
set_option maxRecDepth 100000

/-! ### steps, and appends beside another row -/
def AggB (v : Value) (w : World) (e : Ending) (w' : World) : Prop := e = .returned v ∧ Below w.heap.size w w'
set_option maxHeartbeats 1000000 in
theorem dropChange_any (nm : ByteArray) (vl : Int) (w : World) :
    Calls Try.prog 203 #[.agg #[.string nm, .int .i64 vl]] w (AggB (.agg #[.int .i64 1, .string nm, .int .i64 vl, .int .i64 0]) w) := by
  go_enter Try.func203, Try.ntmps203
  go_wp2
  exact bodyPost_ret (v := .agg #[.int .i64 1, .string nm, .int .i64 vl, .int .i64 0]) (by simp [results, Try.results203, go_sem]) rfl ⟨rfl, ((Below.refl _ _).alloc (Nat.le_refl _) _).alloc (by simp) _⟩
set_option maxHeartbeats 1000000 in
theorem addChange_any (nm : ByteArray) (vl : Int) (w : World) :
    Calls Try.prog 202 #[.agg #[.string nm, .int .i64 vl]] w (AggB (.agg #[.int .i64 0, .string nm, .int .i64 0, .int .i64 vl]) w) := by
  go_enter Try.func202, Try.ntmps202
  go_wp2
  exact bodyPost_ret (v := .agg #[.int .i64 0, .string nm, .int .i64 0, .int .i64 vl]) (by simp [results, Try.results202, go_sem]) rfl ⟨rfl, ((Below.refl _ _).alloc (Nat.le_refl _) _).alloc (by simp) _⟩
set_option maxHeartbeats 1000000 in
theorem turnChange_any (nm : ByteArray) (vl x : Int) (w : World) :
    Calls Try.prog 204 #[.agg #[.string nm, .int .i64 vl, .int .i64 x]] w (AggB (.agg #[.int .i64 2, .string nm, .int .i64 vl, .int .i64 x]) w) := by
  go_enter Try.func204, Try.ntmps204
  go_wp2
  exact bodyPost_ret (v := .agg #[.int .i64 2, .string nm, .int .i64 vl, .int .i64 x]) (by simp [results, Try.results204, go_sem]) rfl ⟨rfl, ((Below.refl _ _).alloc (Nat.le_refl _) _).alloc (by simp) _⟩

theorem run_app_K (W X : World) (hX : X.heap = (W.alloc (.cells #[] 137)).heap → True) (base : Nat) (v : Value) (n : Nat) (xs : List Value) (hown : X.ownsRow base 137 4 v n xs) (kd : Int) (nm : ByteArray) (ol nw : Int) (g c : Nat) (ty : TypeId)
    (hblk : X.heap[g]? = some (.cells #[.int .i64 kd, .string nm, .int .i64 ol, .int .i64 nw] 137 (0, 0))) (hn : n ≤ 2000000) (hbase : base ≤ X.heap.size) :
    ∃ v' w', (Builtin.append_ #[54, 54] ty #[v, .slice (some ⟨g, 0, none⟩) 1 c]).run Try.prog X = .ok v' w' ∧ w'.ownsRow base 137 4 v' (n + 1) (xs ++ [.int .i64 kd, .string nm, .int .i64 ol, .int .i64 nw]) ∧ X.grownBy w' v.ownBlock ∧ Where X v v' := by
  obtain ⟨i0, hi, hz0, hz1, hz2⟩ := info_parts info_K
  obtain ⟨v', w', hr, h2, h3, _, h5⟩ := run_append_own_at (P := Try.prog) X base 54 ty _ i0 _ 4 40 Try.underlying54 hi hz0 hz1 hz2 rfl (by omega) v n xs hown ⟨g, 0, none⟩ 1 c [.int .i64 kd, .string nm, .int .i64 ol, .int .i64 nw] rfl
    (World.news_of_block hblk) (by simp [Value.oneCell']) (by unfold maxLen; omega) (by omega) hbase
  refine ⟨v', w', hr, h2, h3, fun q hq hne => ?_⟩
  rcases h5 with h5 | h5
  · rw [h5]; exact hne
  · rw [h5]; intro e; injection e with e; omega
section
variable {W : World} {ops : Array Oper} {rest : List Oper} {o : Oper} {a : Act} {Q : Exit → Act → World → Prop}
theorem wpList_app_Kw (hgd : o.guard = none) (s x : Operand) (ho : o.op = .call { callee := .builtin .append, args := #[s, x], argTypes := #[54, 54] })
    (base : Nat) (v : Value) (n : Nat) (xs : List Value) (hs : a.eval s = v) (hown : W.ownsRow base 137 4 v n xs) (kd : Int) (nm : ByteArray) (ol nw : Int)
    (c g : Nat) (hx : a.eval x = .slice (some ⟨g, 0, none⟩) 1 c) (hgw : g = W.heap.size) (hn : n ≤ 2000000) (hbase : base ≤ W.heap.size)
    (h : ∀ v' w', w'.ownsRow base 137 4 v' (n + 1) (xs ++ [.int .i64 kd, .string nm, .int .i64 ol, .int .i64 nw]) → W.grownBy w' v.ownBlock → Where W v v' → wpList Try.prog ops Q rest (a.put o.dst v') w') :
    wpList Try.prog ops Q (o :: rest) a (W.alloc (.cells #[.int .i64 kd, .string nm, .int .i64 ol, .int .i64 nw] 137)) := by
  subst hgw
  obtain ⟨v', w', hr, h2, h3, h4⟩ := run_app_K W _ (fun _ => trivial) base v n xs (hown.alloc (.cells #[.int .i64 kd, .string nm, .int .i64 ol, .int .i64 nw] 137)) kd nm ol nw W.heap.size c o.type (heap_alloc_new W _) hn (by simp; omega)
  refine Lib.wpList_append_run _ hgd s x _ _ ho v _ hs hx v' w' hr (h v' w' h2 ((World.grownBy_alloc _ _ _).trans h3) (fun q hq hne => h4 q (by simp; omega) hne))
theorem step_app_Kw {K : Act → World → Prop} {E : Prop} (hgd : o.guard = none) (s x : Operand) (ho : o.op = .call { callee := .builtin .append, args := #[s, x], argTypes := #[54, 54] })
    (base : Nat) (v : Value) (n : Nat) (xs : List Value) (hs : a.eval s = v) (hown : W.ownsRow base 137 4 v n xs) (kd : Int) (nm : ByteArray) (ol nw : Int)
    (c : Nat) (hx : a.eval x = .slice (some ⟨W.heap.size, 0, none⟩) 1 c) (hn : n ≤ 2000000) (hbase : base ≤ W.heap.size)
    (hK : ∀ v' w', w'.ownsRow base 137 4 v' (n + 1) (xs ++ [.int .i64 kd, .string nm, .int .i64 ol, .int .i64 nw]) → W.grownBy w' v.ownBlock → Where W v v' → K (a.put o.dst v') w') :
    if Region.wanted o (yielded ops a.tmps) = true then Oper.wp Try.prog o a (W.alloc (.cells #[.int .i64 kd, .string nm, .int .i64 ol, .int .i64 nw] 137)) K Q else E := by
  have hw : Region.wanted o (yielded ops a.tmps) = true := by simp [Region.wanted, hgd]
  rw [if_pos hw]
  obtain ⟨v', w', hr, h2, h3, h4⟩ := run_app_K W _ (fun _ => trivial) base v n xs (hown.alloc (.cells #[.int .i64 kd, .string nm, .int .i64 ol, .int .i64 nw] 137)) kd nm ol nw W.heap.size c o.type (heap_alloc_new W _) hn (by simp; omega)
  unfold Oper.wp
  simp only [execOp, ho, resolve, invoke, builtin, Sem.run_bind, Sem.run_pure, Result.andThen_ok, List.map_toArray, List.map_cons, List.map_nil, hs, hx, hr]
  exact hK v' w' h2 ((World.grownBy_alloc _ _ _).trans h3) (fun q hq hne => h4 q (by simp; omega) hne)
end
end Go.Proofs.Ytkholjcmaebaaaa
