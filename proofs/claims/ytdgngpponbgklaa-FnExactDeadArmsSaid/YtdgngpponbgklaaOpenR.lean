import Derived.Test.YtdgngpponbgklaaOpen
import Derived.Test.YtdgngpponbgklaaArms
namespace Go.Proofs.Ytdgngpponbgklaa
open Go.ChangeShapes Go.WideShapes Go.ChangeAt Go.RowKit Go.Deep Go.Joins
set_option linter.unusedVariables false
set_option maxRecDepth 100000

section
variable {H : Type} {enc : TypeId × Value → H} {W : World} {base : Nat} {spare : Nat → Bool} {held : Bool}
theorem open_arms {r : Reach} {b0 : Nat} {v : Value} {d : DataW H} {p : List MemPlace} (hv : Value.okWide Try.prog W r b0 42 v) (h : DataW.Trod enc Try.prog W base spare held 42 v d p) :
    ∃ (A : Option Addr) (n c : Nat) (ks : List Ar), v = .slice A n c ∧ SA W W.heap.size A n c ks := by
  obtain ⟨A, n, c, rfl⟩ := okWide_slice Try.underlying42 hv
  obtain ⟨fuel, hf⟩ := h
  refine ⟨A, n, c, ?_⟩
  have hc3 : Try.prog.cellsOf 26 = 2 := by kernel_rfl
  rcases Go.Deep.open_slice Try.underlying42 hf with ⟨h0, _⟩ | ⟨a, len, cap, m, k, Dd, Pl, hcs, hb, hl, hm, hmm, _, hi⟩
  · simp [Value.cells] at h0
    obtain ⟨rfl, rfl, rfl⟩ := h0
    exact ⟨[], rfl, Rd.nil_, rfl, Nat.le_refl _, by unfold maxLen; omega, by simp⟩
  · simp [Value.cells] at hcs
    obtain ⟨rfl, rfl, rfl⟩ := hcs
    have hlm : n ≤ m := by rw [hmm]; split <;> omega
    have hi2 : ∀ i, i < n → ∃ d : Ar, W.cell? (a.add (i * 2)) = some (.int .i64 d.all) ∧ W.cell? (a.add (i * 2 + 1)) = some (.int .i64 d.non) ∧ d.ok := by
      intro i hin
      obtain ⟨cs', h1, h2⟩ := hi i (by omega)
      rw [hc3] at h1
      obtain ⟨_, hlen, hcell⟩ := World.cells?_some h1
      obtain ⟨xs, q, hk, hxy, _, hxl, hff⟩ := DataW.trod_struct Try.underlying26 h2
      match xs, hxl, cs', hlen with
      | [y0, y1], _, [v0, v1], _ =>
        have g0 := hff 0 _ rfl
        have g1 := hff 1 _ rfl
        have k2 : Try.prog.cellsOf 3 = 1 := by kernel_rfl
        simp [k2] at g0 g1
        have e0 := hcell 0 (by omega)
        have e1 := hcell 1 (by omega)
        rw [Go.Deep.add_add] at e0 e1
        obtain ⟨z0, q0, _, hw0⟩ := DataW.trod_int Try.underlying3 g0
        obtain ⟨z1, q1, _, hw1⟩ := DataW.trod_int Try.underlying3 g1
        simp at q0 q1
        subst q0 q1
        exact ⟨⟨z0, z1⟩, by simpa using e0, by simpa using e1, wf_bounds hw0, wf_bounds hw1⟩
    obtain ⟨F, hF⟩ : ∃ F : Nat → Ar, ∀ i, i < n → W.cell? (a.add (i * 2)) = some (.int .i64 (F i).all) ∧ W.cell? (a.add (i * 2 + 1)) = some (.int .i64 (F i).non) ∧ (F i).ok :=
      ⟨fun i => if h : i < n then (hi2 i h).choose else ⟨0, 0⟩, fun i h => by simp only [dif_pos h]; exact (hi2 i h).choose_spec⟩
    refine ⟨(List.range n).map F, rfl, ?_, by simp, hl, hm, ?_⟩
    · rcases Nat.eq_zero_or_pos n with rfl | hpos
      · exact .inl rfl
      · have h0 := (hF 0 hpos).1
        obtain ⟨b, o, spot⟩ := a
        have hspot : spot = none := by simpa [Addr.add] using World.cell?_spot h0
        subst hspot
        refine .inr ⟨b, o, rfl, World.block_lt_of_cell? W _ (by simpa [Addr.add] using h0), fun i x hx j v hj => ?_⟩
        obtain ⟨hil, rfl⟩ := List.getElem?_eq_some_iff.1 hx
        simp at hil
        obtain ⟨q1, q2, _⟩ := hF i hil
        have adds : ∀ k, (⟨b, o, none⟩ : Addr).add k = ⟨b, o + k, none⟩ := fun k => by unfold Addr.add; split <;> simp_all
        rw [adds] at q1 q2
        match j, hj with
        | 0, hj => simp [encA] at hj; subst hj; exact q1
        | 1, hj => simp [encA] at hj; subst hj; exact q2
        | j + 2, hj => simp [encA] at hj
    · intro d hd
      simp at hd
      obtain ⟨i, hin, rfl⟩ := hd
      exact (hF i hin).2.2
/-- An argument that is one arm. -/
theorem open_arm {r : Reach} {b0 : Nat} {v : Value} {d : DataW H} {p : List MemPlace} (hv : Value.okWide Try.prog W r b0 26 v) (h : DataW.Trod enc Try.prog W base spare held 26 v d p) :
    ∃ a : Ar, v = .agg #[.int .i64 a.all, .int .i64 a.non] ∧ a.ok := by
  obtain ⟨v0, v1, y0, y1, n, rfl, _, _, h0, h1⟩ := open_agg2 Try.underlying26 (by kernel_rfl) (by kernel_rfl) hv h
  obtain ⟨z0, e1, _, hz0⟩ := DataW.trod_int Try.underlying3 h0
  obtain ⟨z1, e2, _, hz1⟩ := DataW.trod_int Try.underlying3 h1
  simp at e1 e2
  subst e1 e2
  exact ⟨⟨z0, z1⟩, rfl, wf_bounds hz0, wf_bounds hz1⟩
end
end Go.Proofs.Ytdgngpponbgklaa
