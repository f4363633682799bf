import Derived.Test.YtpmanbmhbfnefaaBaseB
import Derived.Maps.OwnSet
import Derived.Maps.Views
namespace Go.Proofs.Ytpmanbmhbfnefaa
open Go.RowKit Go.Maps
set_option linter.unusedVariables false
set_option maxRecDepth 100000

/-- Block b of w is a map[string]int: f tells what each text leads to, -1 that it leads nowhere; it has cnt entries. -/
def IdxS (w : World) (b n : Nat) (f : ByteArray → Int) (cnt : Nat) : Prop :=
  ∃ D : DataW Unit, w.ownsMap Try.prog 9 (plainElem Try.prog 3) b n D ∧ IsMap D ∧ Maps.size D = cnt ∧
    ∀ s : ByteArray, (f s < 0 → Maps.has D (.string s.data.toList) = false) ∧ (0 ≤ f s → Maps.has D (.string s.data.toList) = true ∧ D.atKey (.string s.data.toList) (.lit (.int .i64 0)) = .lit (.int .i64 (f s)))
theorem key_ne {s t : ByteArray} (h : ¬ s = t) : Lit.string s.data.toList ≠ Lit.string t.data.toList := fun e => h (by injection e with e; exact WideShapes.bytes_inj e)

section
variable {w w' : World} {b n cnt : Nat} {f : ByteArray → Int}
theorem IdxS.made (w : World) : IdxS (w.alloc (.map #[] 0)) w.heap.size 0 (fun _ => -1) 0 :=
  ⟨_, World.ownsMap_made w _ _ _, isMap_empty, rfl, fun x => ⟨fun _ => rfl, fun h => absurd h (by simp)⟩⟩
theorem IdxS.alloc (h : IdxS w b n f cnt) (o : Obj) : IdxS (w.alloc o) b n f cnt := by
  obtain ⟨D, h1, h2⟩ := h; exact ⟨D, h1.alloc o, h2⟩
theorem IdxS.grown {row : Option Nat} (h : IdxS w b n f cnt) (hg : w.grownBy w' row) (hr : row ≠ some b) : IdxS w' b n f cnt := by
  obtain ⟨D, h1, h2⟩ := h
  exact ⟨D, h1.kept hg (fun e => hr e.symm), h2⟩
theorem IdxS.below (h : IdxS w b n f cnt) (hb : Below w.heap.size w w') : IdxS w' b n f cnt := by
  obtain ⟨D, h1, h2⟩ := h
  exact ⟨D, h1.kept (row := none) ⟨hb.os, hb.tape, hb.output, hb.size, fun k hk _ => hb.block k hk⟩ (by simp), h2⟩
theorem IdxS.drewN (h : IdxS w b n f cnt) (N : Nat) : IdxS (w.drewN N) b n f cnt := h
theorem IdxS.lt (h : IdxS w b n f cnt) : b < w.heap.size := by obtain ⟨D, h1, h2⟩ := h; exact h1.lt
theorem IdxS.look_no (h : IdxS w b n f cnt) (s : ByteArray) (hs : s.size ≤ maxLen) (hf : f s < 0) :
    (Instr.lookup 86 (.map (some b)) (.string s) true).run Try.prog w = .ok (.tuple #[.int .i64 0, .bool false]) w := by
  obtain ⟨D, h1, h2, _, h3⟩ := h
  obtain ⟨v, ps, hrun, hv⟩ := h1.look_ok strKey Try.underlying86 (zeroInt w) (plainElem_int Try.underlying3 (by decide)) (Go.WideMaps.keyOf_string_mk Try.underlying9 hs)
  have hh := (h3 s).1 hf
  rw [atKey_of_not_has hh] at hv
  obtain ⟨c, rfl, hc, _⟩ := plainElem_int_inv Try.underlying3 hv
  simp at hc
  rw [hrun, hh, ← hc.1]
theorem IdxS.look_yes (h : IdxS w b n f cnt) (s : ByteArray) (hs : s.size ≤ maxLen) (hf : 0 ≤ f s) :
    (Instr.lookup 86 (.map (some b)) (.string s) true).run Try.prog w = .ok (.tuple #[.int .i64 (f s), .bool true]) w := by
  obtain ⟨D, h1, h2, _, h3⟩ := h
  obtain ⟨v, ps, hrun, hv⟩ := h1.look_ok strKey Try.underlying86 (zeroInt w) (plainElem_int Try.underlying3 (by decide)) (Go.WideMaps.keyOf_string_mk Try.underlying9 hs)
  obtain ⟨hh, ha⟩ := (h3 s).2 hf
  rw [ha] at hv
  obtain ⟨c, rfl, hc, _⟩ := plainElem_int_inv Try.underlying3 hv
  simp at hc
  rw [hrun, hh, ← hc.1]
theorem IdxS.len_ (h : IdxS w b n f cnt) (ty : TypeId) : (Builtin.len_ #[86] ty #[.map (some b)]).run Try.prog w = .ok (.int .i64 cnt) w := by
  obtain ⟨D, h1, h2, h3, _⟩ := h
  have := h1.len Try.underlying86 ty
  rw [h3] at this
  exact this
theorem IdxS.put (h : IdxS w b n f cnt) (s : ByteArray) (k : Int) (hs : s.size ≤ maxLen) (hk : 0 ≤ k ∧ k ≤ 9223372036854775807) (hf : f s < 0) (hn : n < maxLen) :
    ∃ w', (Instr.mapUpdate 86 (.map (some b)) (.string s) (.int .i64 k)).run Try.prog w = .ok () w' ∧ IdxS w' b (n + 1) (fun t => if t = s then k else f t) (cnt + 1) ∧ w.grownBy w' (some b) := by
  obtain ⟨D, h1, h2, hz, h3⟩ := h
  obtain ⟨w', hrun, h4, h5⟩ := h1.update strKey Try.underlying86 hn (Go.WideMaps.keyOf_string_mk Try.underlying9 hs) (plainElem_int Try.underlying3 (wf_in ⟨by omega, hk.2⟩))
  refine ⟨w', hrun, ⟨_, h4, h2.put _ _, ?_, fun t => ?_⟩, h5⟩
  · rw [size_put (h1.tidy strKey), (h3 s).1 hf, hz]; rfl
  · by_cases e : t = s
    · subst e
      refine ⟨fun h => absurd h (by simp; omega), fun _ => ⟨has_put_same h2 (show WideAt.IsKeyLit (Lit.string t.data.toList) from trivial) _, ?_⟩⟩
      rw [atKey_put_same h2 (show WideAt.IsKeyLit (Lit.string t.data.toList) from trivial)]
      simp
    · simp only [if_neg e]
      rw [has_put_other (key_ne e), atKey_put_other (key_ne e)]
      exact h3 t
end
theorem wpList_idxS_put (w : World) {ops : Array Oper} {rest : List Oper} {o : Oper} {a : Act} {Q : Exit → Act → World → Prop}
    (hg : o.guard = none) (m x v : Operand) (hop : o.op = Op.mapUpdate 86 m x v) (b n cnt : Nat) (f : ByteArray → Int) (s : ByteArray) (k : Int)
    (hm : a.eval m = .map (some b)) (hown : IdxS w b n f cnt) (hn : n < maxLen) (hs : s.size ≤ maxLen) (hk : 0 ≤ k ∧ k ≤ 9223372036854775807) (hf : f s < 0) (hx : a.eval x = .string s) (hv : a.eval v = .int .i64 k)
    (hK : ∀ w', IdxS w' b (n + 1) (fun t => if t = s then k else f t) (cnt + 1) → w.grownBy w' (some b) → wpList Try.prog ops Q rest (a.put o.dst undef) w') :
    wpList Try.prog ops Q (o :: rest) a w := by
  refine wpList_plain hg fun K' hK' => ?_
  obtain ⟨w', hrun, r1, r2⟩ := hown.put s k hs hk hf hn
  unfold Oper.wp
  simp [execOp, hop, hm, hx, hv, hrun, Result.andThen]
  exact hK' _ _ (hK w' r1 r2)
/-- delete(m, s), where s is there. -/
theorem wpList_idxS_del (w : World) {ops : Array Oper} {rest : List Oper} {o : Oper} {a : Act} {Q : Exit → Act → World → Prop}
    (hg : o.guard = none) (m x : Operand) (hop : o.op = Op.call { callee := Callee.builtin Builtin.delete, args := #[m, x], argTypes := #[86, 9] }) (b n cnt : Nat) (f : ByteArray → Int) (s : ByteArray)
    (hm : a.eval m = .map (some b)) (hown : IdxS w b n f (cnt + 1)) (hs : s.size ≤ maxLen) (hf : 0 ≤ f s) (hx : a.eval x = .string s)
    (hK : ∀ w', IdxS w' b n (fun t => if t = s then -1 else f t) cnt → w.grownBy w' (some b) → wpList Try.prog ops Q rest (a.put o.dst (.tuple #[])) w') :
    wpList Try.prog ops Q (o :: rest) a w := by
  obtain ⟨D, h1, h2, hz, h3⟩ := hown
  refine wpList_delete_own _ hg m x _ _ hop 3 strKey Try.underlying86 _ b n D hm h1 _ _ hx (Go.WideMaps.keyOf_string_mk Try.underlying9 hs) ?_
  intro w' h4 h5
  refine hK w' ⟨_, h4, h2.del _, ?_, fun t => ?_⟩ h5.grown
  · have := size_del (h1.tidy strKey) (k := Lit.string s.data.toList)
    rw [((h3 s).2 hf).1, if_pos rfl, hz] at this
    omega
  · by_cases e : t = s
    · subst e
      simp only [if_true]
      exact ⟨fun _ => has_del_same, fun h => absurd h (by omega)⟩
    · simp only [if_neg e]
      rw [has_del_other (key_ne e), atKey_del_other (key_ne e)]
      exact h3 t
end Go.Proofs.Ytpmanbmhbfnefaa
