import Derived.Test.YtnaojafidhloeaaFind
import Derived.Test.YtnaojafidhloeaaCatD
namespace Go.Proofs.Ytnaojafidhloeaa
open Go.RowKit
set_option linter.unusedVariables false
set_option maxRecDepth 100000

/-! ### cells of the call's own -/
/-- Block b's first cell holds v and may be written. -/
def Cl (w : World) (b : Nat) (v : Value) : Prop := w.cell? ⟨b, 0, none⟩ = some v ∧ w.frozen? ⟨b, 0, none⟩ = false
theorem Cl.below {w w' : World} {b : Nat} {v : Value} (h : Cl w b v) (hb : Below w.heap.size w w') : Cl w' b v :=
  ⟨keep1 hb h.1, (hb.frozen (p := ⟨b, 0, none⟩) (World.block_lt_of_cell? _ _ h.1)).trans h.2⟩
theorem Cl.grown {w w' : World} {b : Nat} {v : Value} {row : Option Nat} (h : Cl w b v) (hg : w.grownBy w' row) (hr : some b ≠ row) : Cl w' b v :=
  ⟨hg.cell h.1 hr, by
    have hlt := World.block_lt_of_cell? _ _ h.1
    have := hg.block b hlt hr
    unfold World.frozen? at *
    simp only at this ⊢
    rw [this]; exact h.2⟩
theorem Cl.lt {w : World} {b : Nat} {v : Value} (h : Cl w b v) : b < w.heap.size := World.block_lt_of_cell? _ _ h.1
theorem Cl.drew {w : World} {b : Nat} {v : Value} (h : Cl w b v) : Cl w.drew b v := h
theorem Cl.alloc {w : World} {b : Nat} {v : Value} (h : Cl w b v) (o : Obj) : Cl (w.alloc o) b v := h.below ((Below.refl _ _).alloc (Nat.le_refl _) _)

theorem clNew {w w' : World} {v : Value} {t : TypeId} (hb : Below (w.alloc (.cells #[v] t)).heap.size (w.alloc (.cells #[v] t)) w') : Cl w' w.heap.size v :=
  Cl.below ⟨by simp [go_sem], by simp [go_sem]⟩ hb
theorem clNewD {w w' : World} {v : Value} {t : TypeId} (hb : Below (w.drew.alloc (.cells #[v] t)).heap.size (w.drew.alloc (.cells #[v] t)) w') : Cl w' w.heap.size v := clNew (w := w.drew) hb
theorem clNewLt {w w' : World} {v : Value} {t : TypeId} (hb : Below (w.alloc (.cells #[v] t)).heap.size (w.alloc (.cells #[v] t)) w') : w.heap.size < (w.alloc (.cells #[v] t)).heap.size := by simp
/-- A result that lies in a cell of its own beside its row: the cell was made last. -/
theorem cutA {k wr : World} {base n sz c0 : Nat} {ty t : TypeId} {A0 : Option Addr} {xs : List Value} (ho : wr.ownsRow base ty sz (.slice A0 n c0) n xs) (hbase : k.heap.size ≤ base) (hb : Below k.heap.size k wr) :
    (wr.alloc (.cells #[.slice A0 n c0] t)).cell? ⟨wr.heap.size, 0, none⟩ = some (.slice A0 n c0) ∧ (wr.alloc (.cells #[.slice A0 n c0] t)).ownsRow k.heap.size ty sz (.slice A0 n c0) n xs ∧ k.heap.size ≤ wr.heap.size ∧
      (∀ q, (Value.slice A0 n c0).ownBlock = some q → k.heap.size ≤ q ∧ q < (wr.alloc (.cells #[.slice A0 n c0] t)).heap.size) ∧ Below k.heap.size k (wr.alloc (.cells #[.slice A0 n c0] t)) ∧ (Value.slice A0 n c0).ownBlock ≠ some wr.heap.size :=
  ⟨by simp [go_sem], own_base (ho.alloc _) hbase, hb.size, fun q hq => by have := ho.lt q hq; simp; omega, hb.alloc hb.size _, fun e => by have := (ho.lt _ e).2; simp at this⟩
/-- .. the cell was there ahead of the row. -/
theorem cutB {k wr : World} {base n sz c0 g : Nat} {ty : TypeId} {A0 : Option Addr} {xs : List Value} {v : Value} (ho : wr.ownsRow base ty sz (.slice A0 n c0) n xs) (hbase : k.heap.size ≤ base) (hb : Below k.heap.size k wr) (hc : Cl wr g v) (hg : g < base) (hk : k.heap.size ≤ g) :
    (wr.setCell ⟨g, 0, none⟩ (.slice A0 n c0)).cell? ⟨g, 0, none⟩ = some (.slice A0 n c0) ∧ (wr.setCell ⟨g, 0, none⟩ (.slice A0 n c0)).ownsRow k.heap.size ty sz (.slice A0 n c0) n xs ∧ k.heap.size ≤ g ∧
      (∀ q, (Value.slice A0 n c0).ownBlock = some q → k.heap.size ≤ q ∧ q < (wr.setCell ⟨g, 0, none⟩ (.slice A0 n c0)).heap.size) ∧ Below k.heap.size k (wr.setCell ⟨g, 0, none⟩ (.slice A0 n c0)) ∧ (Value.slice A0 n c0).ownBlock ≠ some g :=
  ⟨World.cell?_setCell_same' _ _ _ (by rw [hc.1]; rfl), own_base (own_setCell ho (fun e => by have := (ho.lt _ e).1; simp at this; omega) _) hbase, hk, fun q hq => by have := ho.lt q hq; rw [World.size_setCell]; omega, hb.setCell hk _, fun e => by have := (ho.lt _ e).1; omega⟩
/-- A row of one's own, read in a world a little later. -/
theorem sdCall {w w' : World} {base n c : Nat} {A : Option Addr} {ds : List D} (h : w.ownsRow base 30 2 (.slice A n c) n (flat ds)) (hok : ∀ d ∈ ds, d.ok) (hb : Below w.heap.size w w') : SD w' w'.heap.size A n c ds :=
  sd_of_own (own_below h hb) hok

/-! ### what the functions of a changed enumeration answer -/
/-- An enumeration in new memory, and whether there is one. -/
def EnumR (ms : List D) (ok : Bool) (w : World) (e : Ending) (w' : World) : Prop :=
  ∃ A c, e = .returned (.tuple #[.agg #[.slice A ms.length c], .bool ok]) ∧ w'.ownsRow w.heap.size 30 2 (.slice A ms.length c) ms.length (flat ms) ∧ Below w.heap.size w w'
/-- An enumeration in new memory. -/
def EnumE (ms : List D) (w : World) (e : Ending) (w' : World) : Prop :=
  ∃ A c, e = .returned (.agg #[.slice A ms.length c]) ∧ w'.ownsRow w.heap.size 30 2 (.slice A ms.length c) ms.length (flat ms) ∧ Below w.heap.size w w'
/-- An enumeration in new memory, or none. -/
def EnumP (o : Option (List D)) (w : World) (e : Ending) (w' : World) : Prop :=
  ∃ A c, e = .returned (.tuple #[.agg #[.slice A (o.getD []).length c], .bool o.isSome]) ∧ w'.ownsRow w.heap.size 30 2 (.slice A (o.getD []).length c) (o.getD []).length (flat (o.getD [])) ∧ Below w.heap.size w w'
theorem enumP_none {w w' : World} (hb : Below w.heap.size w w') : EnumP none w (.returned (.tuple #[.agg #[.slice none 0 0], .bool false])) w' := ⟨none, 0, rfl, World.ownsRow_nil _ _ _ _, hb⟩
def chkO (ds : List D) : Option (List D) := if vEnum ds then some ds else none
theorem chkO_len (ds : List D) : ((chkO ds).getD []).length ≤ 12 := by
  unfold chkO
  cases h : vEnum ds
  · exact Nat.zero_le _
  · exact vEnum_len h
theorem chkO_mem {ds : List D} {x : D} (h : x ∈ (chkO ds).getD []) : x ∈ ds := by
  unfold chkO at h
  cases hv : vEnum ds
  · rw [hv] at h; cases h
  · rw [hv] at h; exact h
/-- What checking hands on. -/
def ChkQ (v : Bool) (A : Option Addr) (n c : Nat) (A' : Option Addr) (n' c' : Nat) : Prop := if v then A' = A ∧ n' = n ∧ c' = c else A' = none ∧ n' = 0 ∧ c' = 0
theorem chkQ_own {w : World} {base n c n' c' : Nat} {A A' : Option Addr} {ds : List D} (h : w.ownsRow base 30 2 (.slice A n c) n (flat ds)) (hq : ChkQ (vEnum ds) A n c A' n' c') :
    n' = ((chkO ds).getD []).length ∧ (chkO ds).isSome = vEnum ds ∧ w.ownsRow base 30 2 (.slice A' n' c') n' (flat ((chkO ds).getD [])) := by
  have hl : ds.length = n := by have := h.1; rw [flat_length] at this; omega
  unfold ChkQ at hq
  unfold chkO
  cases hv : vEnum ds
  · rw [hv] at hq
    obtain ⟨rfl, rfl, rfl⟩ := hq
    exact ⟨rfl, rfl, World.ownsRow_nil _ _ _ _⟩
  · rw [hv] at hq
    obtain ⟨rfl, rfl, rfl⟩ := hq
    exact ⟨hl.symm, rfl, h⟩
def ChkP (v : Bool) (A : Option Addr) (n c : Nat) (w : World) (e : Ending) (w' : World) : Prop :=
  ∃ A' n' c', e = .returned (.tuple #[.agg #[.slice A' n' c'], .bool v]) ∧ ChkQ v A n c A' n' c' ∧ Below w.heap.size w w'
theorem enumP_chk {ds : List D} {w w' : World} {A A' : Option Addr} {n c n' c' : Nat} (h : w'.ownsRow w.heap.size 30 2 (.slice A n c) n (flat ds)) (hq : ChkQ (vEnum ds) A n c A' n' c') (hb : Below w.heap.size w w') :
    EnumP (chkO ds) w (.returned (.tuple #[.agg #[.slice A' n' c'], .bool (vEnum ds)])) w' := by
  obtain ⟨h1, h2, h3⟩ := chkQ_own h hq
  unfold EnumP
  rw [← h1, h2]
  exact ⟨A', c', rfl, h3, hb⟩

/-- Definitions with one more: an enumeration, or none. -/
def mAdd (ds : List D) (d : D) : Option (List D) := if vEnum ds then chkO (ds ++ [d]) else none
theorem mAdd_no {ds : List D} {d : D} (h : vEnum ds = false) : mAdd ds d = none := by unfold mAdd; rw [h]; rfl
theorem mAdd_yes {ds : List D} {d : D} (h : vEnum ds = true) : mAdd ds d = chkO (ds ++ [d]) := by unfold mAdd; rw [h]; rfl

theorem mAdd_len (ds : List D) (d : D) : ((mAdd ds d).getD []).length ≤ 12 := by
  unfold mAdd; split
  · exact chkO_len _
  · exact Nat.zero_le _
theorem mAdd_mem {ds : List D} {d x : D} (h : x ∈ (mAdd ds d).getD []) : x ∈ ds ∨ x = d := by
  unfold mAdd at h; split at h
  · simpa using chkO_mem h
  · cases h

theorem keepS {w : World} {b o b' : Nat} {v u : Value} (h : w.cell? ⟨b, o, none⟩ = some v) (hne : b ≠ b') : (w.setCell ⟨b', 0, none⟩ u).cell? ⟨b, o, none⟩ = some v := by
  rw [World.cell?_setCell_other _ _ _ _ (fun e => hne (by injection e with e1; exact e1.symm))]; exact h
theorem keepA {w : World} {p : Addr} {v : Value} (h : w.cell? p = some v) {o : Obj} : (w.alloc o).cell? p = some v :=
  (World.cell?_alloc_lt w o p (World.block_lt_of_cell? _ _ h)).trans h

end Go.Proofs.Ytnaojafidhloeaa
