import Derived.Test.YtnaojafidhloeaaLook
import Derived.Test.YtnaojafidhloeaaMembers
import Derived.Deep.AppendLies
import Derived.Deep.Quiet
import Derived.BigQuiet
namespace Go.Proofs.Ytnaojafidhloeaa
open Go.RowKit Go.Maps
set_option linter.unusedVariables false
set_option maxRecDepth 100000

theorem info_S : (Try.prog.info? 9).map (fun i => (i.zero, i.size, i.bytes)) = some (some (.string ByteArray.empty), 1, 16) := by kernel_rfl
theorem info_I : (Try.prog.info? 3).map (fun i => (i.zero, i.size, i.bytes)) = some (some (.int .i64 0), 1, 8) := by kernel_rfl

/-- A region that draws its order, each operation of which yields one value in every world that holds what w holds: walked once. -/
theorem wp_region_still {P : Program} {id : Nat} {Q : Exit → Act → World → Prop} {a : Act} {w : World} {l : List Oper} (hm : P.follows .mixedOrders = true) (hB : Region.lexB .any l.toArray = true)
    (h : wpQuiet P l.toArray (fun w' => Below w.heap.size w w') (fun a' => ∀ w', Below w.heap.size w w' → Q .normal a' w') l a) : (Code.region id l.toArray true).wp P Q a w :=
  wp_region_quiet (C := fun w' => Below w.heap.size w w') hm hB ⟨rfl, rfl, rfl, Nat.le_refl _, fun _ _ => rfl⟩ (by simpa using h)

/-- 'append(out, x)', x one element: what it does to an owned row. -/
theorem wpList_app1 {P : Program} {W : World} {ops : Array Oper} {rest : List Oper} {o : Oper} {a : Act} {Q : Exit → Act → World → Prop} (hgd : o.guard = none) (s x : Operand) (t : TypeId)
    (ho : o.op = .call { callee := .builtin .append, args := #[s, x], argTypes := #[t, t] })
    (base : Nat) (e : TypeId) (i : TypeInfo) (z : Value) (size bytes : Nat) (ht : P.underlying t = some (.slice e)) (hi : P.info? e = some i ∧ i.zero = some z ∧ i.size = size ∧ i.bytes = bytes)
    (hzs : z.cells.size = size) (hsz : 0 < size) (hby : bytes ≤ 48)
    (v : Value) (n : Nat) (xs : List Value) (hs : a.eval s = v) (hown : W.ownsRow base e size v n xs) (cs : Array Value) (hcs : cs.size = size) (h1 : ∀ u ∈ cs.toList, u.oneCell' = true)
    (c g : Nat) (hx : a.eval x = .slice (some ⟨g, 0, none⟩) 1 c) (hgw : g = W.heap.size) (hn : n ≤ 2000000) (hbase : base ≤ W.heap.size)
    (h : ∀ v' w', w'.ownsRow base e size v' (n + 1) (xs ++ cs.toList) → Below base W w' → wpList P ops Q rest (a.put o.dst v') w') :
    wpList P ops Q (o :: rest) a (W.alloc (.cells cs e)) := by
  subst hgw
  refine wpList_append_own _ hgd s x t ho base e i z size bytes ht hi.1 hi.2.1 hi.2.2.1 hi.2.2.2 hzs hsz v n xs hs (hown.alloc _) ⟨W.heap.size, 0, none⟩ 1 c cs.toList hx (by simpa using hcs)
    (World.news_of_block (heap_alloc_new W _)) h1 (by unfold maxLen; omega) (by have : (n + 1) * bytes ≤ 2000001 * 48 := Nat.mul_le_mul (by omega) hby; omega) (by simp; omega) ?_
  intro v' w' h2 h3 _
  exact h v' w' h2 (((Below.refl _ _).alloc hbase _).grown h3 (by simp; omega) (fun k hk => (hown.lt k hk).1))

section
variable {W : World} {ops : Array Oper} {rest : List Oper} {o : Oper} {a : Act} {Q : Exit → Act → World → Prop}
theorem wpList_app_D (hgd : o.guard = none) (s x : Operand) (ho : o.op = .call { callee := .builtin .append, args := #[s, x], argTypes := #[23, 23] })
    (base : Nat) (v : Value) (n : Nat) (xs : List Value) (hs : a.eval s = v) (hown : W.ownsRow base 30 2 v n xs) (nm : ByteArray) (vl : Int)
    (c g : Nat) (hx : a.eval x = .slice (some ⟨g, 0, none⟩) 1 c) (hgw : g = W.heap.size) (hn : n ≤ 2000000) (hbase : base ≤ W.heap.size)
    (h : ∀ v' w', w'.ownsRow base 30 2 v' (n + 1) (xs ++ [.string nm, .int .i64 vl]) → Below base W w' → wpList Try.prog ops Q rest (a.put o.dst v') w') :
    wpList Try.prog ops Q (o :: rest) a (W.alloc (.cells #[.string nm, .int .i64 vl] 30)) := by
  obtain ⟨i0, hi, hz0, hz1, hz2⟩ := info_parts info_D
  exact wpList_app1 hgd s x _ ho base _ i0 _ 2 24 Try.underlying23 ⟨hi, hz0, hz1, hz2⟩ rfl (by omega) (by omega) v n xs hs hown _ rfl (by simp [Value.oneCell']) c g hx hgw hn hbase h
theorem wpList_app_S (hgd : o.guard = none) (s x : Operand) (ho : o.op = .call { callee := .builtin .append, args := #[s, x], argTypes := #[28, 28] })
    (base : Nat) (v : Value) (n : Nat) (xs : List Value) (hs : a.eval s = v) (hown : W.ownsRow base 9 1 v n xs) (nm : ByteArray)
    (c g : Nat) (hx : a.eval x = .slice (some ⟨g, 0, none⟩) 1 c) (hgw : g = W.heap.size) (hn : n ≤ 2000000) (hbase : base ≤ W.heap.size)
    (h : ∀ v' w', w'.ownsRow base 9 1 v' (n + 1) (xs ++ [.string nm]) → Below base W w' → wpList Try.prog ops Q rest (a.put o.dst v') w') :
    wpList Try.prog ops Q (o :: rest) a (W.alloc (.cells #[.string nm] 9)) := by
  obtain ⟨i0, hi, hz0, hz1, hz2⟩ := info_parts info_S
  exact wpList_app1 hgd s x _ ho base _ i0 _ 1 16 Try.underlying28 ⟨hi, hz0, hz1, hz2⟩ rfl (by omega) (by omega) v n xs hs hown _ rfl (by simp [Value.oneCell']) c g hx hgw hn hbase h
theorem wpList_app_I (hgd : o.guard = none) (s x : Operand) (ho : o.op = .call { callee := .builtin .append, args := #[s, x], argTypes := #[69, 69] })
    (base : Nat) (v : Value) (n : Nat) (xs : List Value) (hs : a.eval s = v) (hown : W.ownsRow base 3 1 v n xs) (vl : Int)
    (c g : Nat) (hx : a.eval x = .slice (some ⟨g, 0, none⟩) 1 c) (hgw : g = W.heap.size) (hn : n ≤ 2000000) (hbase : base ≤ W.heap.size)
    (h : ∀ v' w', w'.ownsRow base 3 1 v' (n + 1) (xs ++ [.int .i64 vl]) → Below base W w' → wpList Try.prog ops Q rest (a.put o.dst v') w') :
    wpList Try.prog ops Q (o :: rest) a (W.alloc (.cells #[.int .i64 vl] 3)) := by
  obtain ⟨i0, hi, hz0, hz1, hz2⟩ := info_parts info_I
  exact wpList_app1 hgd s x _ ho base _ i0 _ 1 8 Try.underlying69 ⟨hi, hz0, hz1, hz2⟩ rfl (by omega) (by omega) v n xs hs hown _ rfl (by simp [Value.oneCell']) c g hx hgw hn hbase h
end

theorem own_form {w : World} {base : Nat} {e : TypeId} {sz : Nat} {v : Value} {n : Nat} {xs : List Value} (h : w.ownsRow base e sz v n xs) : ∃ A c, v = .slice A n c := by
  rcases h.2 with ⟨rfl, rfl⟩ | ⟨g, cap, cur, rfl, _⟩
  · exact ⟨none, 0, rfl⟩
  · exact ⟨_, cap, rfl⟩

/-! ### the model's members -/
/-- The definitions of members among the first k. -/
def memTo (ds : List D) : Nat → List D
  | 0 => []
  | k + 1 => memTo ds k ++ (match ds[k]? with | some d => if memAt ds k d then [d] else [] | none => [])
theorem memTo_succ (ds : List D) (k : Nat) (h : k < ds.length) : memTo ds (k + 1) = memTo ds k ++ if memAt ds k ds[k] then [ds[k]] else [] := by
  show memTo ds k ++ _ = _
  rw [List.getElem?_eq_getElem h]
theorem memTo_len (ds : List D) (k : Nat) : (memTo ds k).length = memCnt ds k := by
  induction k with
  | zero => rfl
  | succ k ih =>
    unfold memTo memCnt
    rw [List.length_append, ih]
    cases ds[k]? with
    | none => rfl
    | some d => by_cases h : memAt ds k d <;> simp [h]
theorem memTo_in (ds : List D) (k : Nat) : ∀ d ∈ memTo ds k, d ∈ ds := by
  induction k with
  | zero => intro d h; cases h
  | succ k ih =>
    intro d h
    unfold memTo at h
    rcases List.mem_append.1 h with h | h
    · exact ih d h
    · cases e : ds[k]? with
      | none => rw [e] at h; cases h
      | some x =>
        rw [e] at h
        by_cases hm : memAt ds k x
        · simp [hm] at h; subst h; exact List.mem_of_getElem? e
        · simp [hm] at h
def mems (ds : List D) : List D := memTo ds ds.length
/-- The first definition with its value is a member. -/
theorem mem_first (ds : List D) (k : Nat) (h : k < ds.length) : (fidx (isVal ds[k].val) ds == (k : Int)) = memAt ds k ds[k] := by
  rw [memAt_iff]
  rcases fidx_cases (isVal ds[k].val) (ds.take k) with ⟨h1, hn⟩ | ⟨j, hj, h1, hp, hn⟩
  · rw [h1]
    have hl : (ds.take k).length = k := by simp; omega
    have : noTo (isVal ds[k].val) ds k := fun i hi hik => by have := hn i (by omega) (by omega); simpa using this
    rw [fidx_some this h (by unfold isVal; simp)]
    simp
  · rw [h1]
    have hl : (ds.take k).length = k := by simp; omega
    have : noTo (isVal ds[k].val) ds j := fun i hi hik => by have := hn i (by omega) hik; simpa using this
    rw [fidx_some this (by omega) (by simpa using hp)]
    rw [beq_eq_false_iff_ne.2 (by omega), decide_eq_false (by omega)]

def DefsP (ms : List D) (w : World) (e : Ending) (w' : World) : Prop :=
  ∃ A c, e = .returned (.slice A ms.length c) ∧ w'.ownsRow w.heap.size 30 2 (.slice A ms.length c) ms.length (flat ms) ∧ Below w.heap.size w w'

end Go.Proofs.Ytnaojafidhloeaa
