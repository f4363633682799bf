import Derived.Test.YtiebdhbioccogaaGreatDoorBaseC
namespace Go.Proofs.YtiebdhbioccogaaGreatDoor
open Go.RowKit
set_option linter.unusedVariables false
set_option maxRecDepth 100000

theorem fro_set (w : World) (p q : Addr) (v : Value) : (w.setCell p v).frozen? q = w.frozen? q := by simp [go_sem]
/-! ### blocks of two cells that may be written -/
structure C2 (w : World) (g : Nat) (v0 v1 : Value) : Prop where
  c0 : w.cell? ⟨g, 0, none⟩ = some v0
  c1 : w.cell? ⟨g, 1, none⟩ = some v1
  f0 : w.frozen? ⟨g, 0, none⟩ = false
  f1 : w.frozen? ⟨g, 1, none⟩ = false
section
variable {w w' : World} {g : Nat} {v0 v1 : Value}
theorem C2.lt (h : C2 w g v0 v1) : g < w.heap.size := World.block_lt_of_cell? _ _ h.c0
theorem C2.below (h : C2 w g v0 v1) (hb : Below w.heap.size w w') : C2 w' g v0 v1 :=
  ⟨keep1 hb h.c0, keep1 hb h.c1, (hb.frozen (p := ⟨g, 0, none⟩) h.lt).trans h.f0, (hb.frozen (p := ⟨g, 1, none⟩) h.lt).trans h.f1⟩
theorem C2.low {B : Nat} (h : C2 w g v0 v1) (hb : Below B w w') (hg : g < B) : C2 w' g v0 v1 :=
  ⟨(hb.cell (p := ⟨g, 0, none⟩) hg).trans h.c0, (hb.cell (p := ⟨g, 1, none⟩) hg).trans h.c1, (hb.frozen (p := ⟨g, 0, none⟩) hg).trans h.f0, (hb.frozen (p := ⟨g, 1, none⟩) hg).trans h.f1⟩
theorem C2.set0 (h : C2 w g v0 v1) (u : Value) : C2 (w.setCell ⟨g, 0, none⟩ u) g u v1 :=
  ⟨World.cell?_setCell_same' _ _ _ (by rw [h.c0]; rfl), (World.cell?_setCell_other w _ _ u (by simp)).trans h.c1, by rw [fro_set]; exact h.f0, by rw [fro_set]; exact h.f1⟩
theorem C2.set1 (h : C2 w g v0 v1) (u : Value) : C2 (w.setCell ⟨g, 1, none⟩ u) g v0 u :=
  ⟨(World.cell?_setCell_other w _ _ u (by simp)).trans h.c0, World.cell?_setCell_same' _ _ _ (by rw [h.c1]; rfl), by rw [fro_set]; exact h.f0, by rw [fro_set]; exact h.f1⟩
theorem C2.setO (h : C2 w g v0 v1) {p : Addr} (hp : p.block ≠ g) (u : Value) : C2 (w.setCell p u) g v0 v1 :=
  ⟨(World.cell?_setCell_other w p _ u (fun e => by subst e; exact hp rfl)).trans h.c0, (World.cell?_setCell_other w p _ u (fun e => by subst e; exact hp rfl)).trans h.c1, by rw [fro_set]; exact h.f0, by rw [fro_set]; exact h.f1⟩
end
theorem c2New (w : World) (v0 v1 : Value) (t : TypeId) : C2 (w.alloc (.cells #[v0, v1] t)) w.heap.size v0 v1 :=
  ⟨by simp [go_sem], by simp [go_sem], by simp [go_sem], by simp [go_sem]⟩
theorem c2New' (w : World) (o : Obj) (v0 v1 : Value) (t : TypeId) : C2 ((w.alloc o).alloc (.cells #[v0, v1] t)) (w.heap.size + 1) v0 v1 := by
  have := c2New (w.alloc o) v0 v1 t
  simpa using this

/-! ### blocks of three cells that may be written -/
structure C3 (w : World) (g : Nat) (v0 v1 v2 : Value) : Prop where
  c0 : w.cell? ⟨g, 0, none⟩ = some v0
  c1 : w.cell? ⟨g, 1, none⟩ = some v1
  c2 : w.cell? ⟨g, 2, none⟩ = some v2
  f0 : w.frozen? ⟨g, 0, none⟩ = false
  f1 : w.frozen? ⟨g, 1, none⟩ = false
  f2 : w.frozen? ⟨g, 2, none⟩ = false
section
variable {w w' : World} {g : Nat} {v0 v1 v2 : Value}
theorem C3.lt (h : C3 w g v0 v1 v2) : g < w.heap.size := World.block_lt_of_cell? _ _ h.c0
theorem C3.below (h : C3 w g v0 v1 v2) (hb : Below w.heap.size w w') : C3 w' g v0 v1 v2 :=
  ⟨keep1 hb h.c0, keep1 hb h.c1, keep1 hb h.c2, (hb.frozen (p := ⟨g, 0, none⟩) h.lt).trans h.f0, (hb.frozen (p := ⟨g, 1, none⟩) h.lt).trans h.f1, (hb.frozen (p := ⟨g, 2, none⟩) h.lt).trans h.f2⟩
theorem C3.set1 (h : C3 w g v0 v1 v2) (u : Value) : C3 (w.setCell ⟨g, 1, none⟩ u) g v0 u v2 :=
  ⟨(World.cell?_setCell_other w _ _ u (by simp)).trans h.c0, World.cell?_setCell_same' _ _ _ (by rw [h.c1]; rfl), (World.cell?_setCell_other w _ _ u (by simp)).trans h.c2, by rw [fro_set]; exact h.f0, by rw [fro_set]; exact h.f1, by rw [fro_set]; exact h.f2⟩
theorem C3.set2 (h : C3 w g v0 v1 v2) (u : Value) : C3 (w.setCell ⟨g, 2, none⟩ u) g v0 v1 u :=
  ⟨(World.cell?_setCell_other w _ _ u (by simp)).trans h.c0, (World.cell?_setCell_other w _ _ u (by simp)).trans h.c1, World.cell?_setCell_same' _ _ _ (by rw [h.c2]; rfl), by rw [fro_set]; exact h.f0, by rw [fro_set]; exact h.f1, by rw [fro_set]; exact h.f2⟩
theorem C3.setO (h : C3 w g v0 v1 v2) {p : Addr} (hp : p.block ≠ g) (u : Value) : C3 (w.setCell p u) g v0 v1 v2 :=
  ⟨(World.cell?_setCell_other w p _ u (fun e => by subst e; exact hp rfl)).trans h.c0, (World.cell?_setCell_other w p _ u (fun e => by subst e; exact hp rfl)).trans h.c1, (World.cell?_setCell_other w p _ u (fun e => by subst e; exact hp rfl)).trans h.c2, by rw [fro_set]; exact h.f0, by rw [fro_set]; exact h.f1, by rw [fro_set]; exact h.f2⟩
end
theorem c3New (w : World) (v0 v1 v2 : Value) (t : TypeId) : C3 (w.alloc (.cells #[v0, v1, v2] t)) w.heap.size v0 v1 v2 :=
  ⟨by simp [go_sem], by simp [go_sem], by simp [go_sem], by simp [go_sem], by simp [go_sem], by simp [go_sem]⟩


section
variable {w w' : World} {g : Nat} {v0 v1 v2 : Value}
theorem C2.grown {row : Option Nat} (h : C2 w g v0 v1) (hg : w.grownBy w' row) (hr : some g ≠ row) : C2 w' g v0 v1 :=
  ⟨hg.cell h.c0 hr, hg.cell h.c1 hr, by
    have := hg.block g h.lt hr
    have e := h.f0
    unfold World.frozen? at *
    simp only at this e ⊢
    rw [this]; exact e, by
    have := hg.block g h.lt hr
    have e := h.f1
    unfold World.frozen? at *
    simp only at this e ⊢
    rw [this]; exact e⟩
end
end Go.Proofs.YtiebdhbioccogaaGreatDoor
