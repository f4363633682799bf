import Derived.Test.YtkholjcmaebaaaaOpen
import Derived.Test.YtkholjcmaebaaaaBaseC
namespace Go.Proofs.Ytkholjcmaebaaaa
open Go.ChangeShapes Go.WideShapes Go.ChangeAt Go.RowKit Go.Deep Go.Joins
set_option linter.unusedVariables false
set_option maxRecDepth 100000

section
variable {H : Type} {enc : TypeId × Value → H} {W : World} {base : Nat} {spare : Nat → Bool} {held : Bool}
theorem open_changes {r : Reach} {b0 : Nat} {v : Value} {d : DataW H} {p : List MemPlace} (hv : Value.okWide Try.prog W r b0 64 v) (h : DataW.Trod enc Try.prog W base spare held 64 v d p) :
    ∃ (A : Option Addr) (n c : Nat) (ks : List Ch), v = .slice A n c ∧ SK W W.heap.size A n c ks := by
  obtain ⟨A, n, c, rfl⟩ := okWide_slice Try.underlying64 hv
  obtain ⟨fuel, hf⟩ := h
  refine ⟨A, n, c, ?_⟩
  have hc3 : Try.prog.cellsOf 153 = 4 := by kernel_rfl
  rcases Go.Deep.open_slice Try.underlying64 hf with ⟨h0, _⟩ | ⟨a, len, cap, m, k, Dd, Pl, hcs, hb, hl, hm, hmm, _, hi⟩
  · simp [Value.cells] at h0
    obtain ⟨rfl, rfl, rfl⟩ := h0
    exact ⟨[], rfl, Rd.nil_, rfl, Nat.le_refl _, by unfold maxLen; omega, by simp⟩
  · simp [Value.cells] at hcs
    obtain ⟨rfl, rfl, rfl⟩ := hcs
    have hlm : n ≤ m := by rw [hmm]; split <;> omega
    have hi2 : ∀ i, i < n → ∃ d : Ch, W.cell? (a.add (i * 4)) = some (.int .i64 d.kind) ∧ W.cell? (a.add (i * 4 + 1)) = some (.string d.name) ∧ W.cell? (a.add (i * 4 + 2)) = some (.int .i64 d.old) ∧ W.cell? (a.add (i * 4 + 3)) = some (.int .i64 d.new) ∧ d.ok := by
      intro i hin
      obtain ⟨cs', h1, h2⟩ := hi i (by omega)
      rw [hc3] at h1
      obtain ⟨_, hlen, hcell⟩ := World.cells?_some h1
      obtain ⟨xs, q, hk, hxy, _, hxl, hff⟩ := DataW.trod_struct Try.underlying153 h2
      match xs, hxl, cs', hlen with
      | [y0, y1, y2, y3], _, [v0, v1, v2, v3], _ =>
        have g0 := hff 0 _ rfl
        have g1 := hff 1 _ rfl
        have g2 := hff 2 _ rfl
        have g3 := hff 3 _ rfl
        have k0 : Try.prog.cellsOf 9 = 1 := by kernel_rfl
        have k2 : Try.prog.cellsOf 3 = 1 := by kernel_rfl
        simp [k0, k2] at g0 g1 g2 g3
        have e0 := hcell 0 (by omega)
        have e1 := hcell 1 (by omega)
        have e2 := hcell 2 (by omega)
        have e3 := hcell 3 (by omega)
        rw [Go.Deep.add_add] at e0 e1 e2 e3
        obtain ⟨z0, q0, _, hw0⟩ := DataW.trod_int Try.underlying3 g0
        obtain ⟨s, q1, _, hs⟩ := DataW.trod_string Try.underlying9 g1
        obtain ⟨z2, q2, _, hw2⟩ := DataW.trod_int Try.underlying3 g2
        obtain ⟨z3, q3, _, hw3⟩ := DataW.trod_int Try.underlying3 g3
        simp at q0 q1 q2 q3
        subst q0 q1 q2 q3
        exact ⟨⟨z0, s, z2, z3⟩, by simpa using e0, by simpa using e1, by simpa using e2, by simpa using e3, hs, wf_bounds hw0, wf_bounds hw2, wf_bounds hw3⟩
    obtain ⟨F, hF⟩ : ∃ F : Nat → Ch, ∀ i, i < n → W.cell? (a.add (i * 4)) = some (.int .i64 (F i).kind) ∧ W.cell? (a.add (i * 4 + 1)) = some (.string (F i).name) ∧ W.cell? (a.add (i * 4 + 2)) = some (.int .i64 (F i).old) ∧ W.cell? (a.add (i * 4 + 3)) = some (.int .i64 (F i).new) ∧ (F i).ok :=
      ⟨fun i => if h : i < n then (hi2 i h).choose else ⟨0, ByteArray.empty, 0, 0⟩, fun i h => by simp only [dif_pos h]; exact (hi2 i h).choose_spec⟩
    refine ⟨(List.range n).map F, rfl, ?_, by simp, hl, hm, ?_⟩
    · rcases Nat.eq_zero_or_pos n with rfl | hpos
      · exact .inl rfl
      · have h0 := (hF 0 hpos).1
        obtain ⟨b, o, spot⟩ := a
        have hspot : spot = none := by simpa [Addr.add] using World.cell?_spot h0
        subst hspot
        refine .inr ⟨b, o, rfl, World.block_lt_of_cell? W _ (by simpa [Addr.add] using h0), fun i x hx j v hj => ?_⟩
        obtain ⟨hil, rfl⟩ := List.getElem?_eq_some_iff.1 hx
        simp at hil
        obtain ⟨q1, q2, q3, q4, _⟩ := hF i hil
        have adds : ∀ k, (⟨b, o, none⟩ : Addr).add k = ⟨b, o + k, none⟩ := fun k => by unfold Addr.add; split <;> simp_all
        rw [adds] at q1 q2 q3 q4
        match j, hj with
        | 0, hj => simp [encK] at hj; subst hj; exact q1
        | 1, hj => simp [encK] at hj; subst hj; exact q2
        | 2, hj => simp [encK] at hj; subst hj; exact q3
        | 3, hj => simp [encK] at hj; subst hj; exact q4
        | j + 4, hj => simp [encK] at hj
    · intro d hd
      simp at hd
      obtain ⟨i, hin, rfl⟩ := hd
      exact (hF i hin).2.2.2.2
end
end Go.Proofs.Ytkholjcmaebaaaa
