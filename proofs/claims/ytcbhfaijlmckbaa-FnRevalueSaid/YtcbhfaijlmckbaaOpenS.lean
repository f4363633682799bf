import Derived.Test.YtcbhfaijlmckbaaOpen
import Derived.Test.YtcbhfaijlmckbaaBaseA
import Derived.Test.YtcbhfaijlmckbaaBaseC
namespace Go.Proofs.Ytcbhfaijlmckbaa
open Go.ChangeShapes Go.WideShapes Go.ChangeAt Go.RowKit Go.Deep Go.Joins
set_option linter.unusedVariables false
set_option maxRecDepth 100000

section
variable {H : Type} {enc : TypeId × Value → H} {W : World} {base : Nat} {spare : Nat → Bool} {held : Bool}
theorem open_strs {r : Reach} {b0 : Nat} {v : Value} {d : DataW H} {p : List MemPlace} (hv : Value.okWide Try.prog W r b0 30 v) (h : DataW.Trod enc Try.prog W base spare held 30 v d p) :
    ∃ (A : Option Addr) (n c : Nat) (ss : List ByteArray), v = .slice A n c ∧ SS W W.heap.size A n c ss := by
  obtain ⟨A, n, c, rfl⟩ := okWide_slice Try.underlying30 hv
  obtain ⟨fuel, hf⟩ := h
  refine ⟨A, n, c, ?_⟩
  have hc3 : Try.prog.cellsOf 9 = 1 := by kernel_rfl
  rcases Go.Deep.open_slice Try.underlying30 hf with ⟨h0, _⟩ | ⟨a, len, cap, m, k, Dd, Pl, hcs, hb, hl, hm, hmm, _, hi⟩
  · simp [Value.cells] at h0
    obtain ⟨rfl, rfl, rfl⟩ := h0
    exact ⟨[], rfl, Rd.nil_, rfl, Nat.le_refl _, by unfold maxLen; omega, by simp⟩
  · simp [Value.cells] at hcs
    obtain ⟨rfl, rfl, rfl⟩ := hcs
    have hlm : n ≤ m := by rw [hmm]; split <;> omega
    have hi2 : ∀ i, i < n → ∃ d : ByteArray, W.cell? (a.add (i * 1)) = some (Value.string d) ∧ d.size ≤ maxLen := by
      intro i hin
      obtain ⟨cs', h1, h2⟩ := hi i (by omega)
      rw [hc3] at h1
      obtain ⟨_, hlen, hcell⟩ := World.cells?_some h1
      match cs', hlen with
      | [v0], _ =>
        have e0 := hcell 0 (by omega)
        obtain ⟨z0, q0, _, hw0⟩ := DataW.trod_string Try.underlying9 h2
        simp at q0
        subst q0
        refine ⟨z0, ?_, hw0⟩
        have e1 : (a.add (i * 1)).add 0 = a.add (i * 1) := by rw [Go.Deep.add_add]; rfl
        rw [e1] at e0
        simpa using e0
    obtain ⟨F, hF⟩ : ∃ F : Nat → ByteArray, ∀ i, i < n → W.cell? (a.add (i * 1)) = some (Value.string (F i)) ∧ (fun d : ByteArray => d.size ≤ maxLen) (F i) :=
      ⟨fun i => if h : i < n then (hi2 i h).choose else ByteArray.empty, fun i h => by simp only [dif_pos h]; exact (hi2 i h).choose_spec⟩
    refine ⟨(List.range n).map F, rfl, ?_, by simp, hl, hm, ?_⟩
    · rcases Nat.eq_zero_or_pos n with rfl | hpos
      · exact .inl rfl
      · have h0 := (hF 0 hpos).1
        obtain ⟨b, o, spot⟩ := a
        have hspot : spot = none := by simpa [Addr.add] using World.cell?_spot h0
        subst hspot
        refine .inr ⟨b, o, rfl, World.block_lt_of_cell? W _ (by simpa [Addr.add] using h0), fun i x hx j v hj => ?_⟩
        obtain ⟨hil, rfl⟩ := List.getElem?_eq_some_iff.1 hx
        simp at hil
        obtain ⟨q1, _⟩ := hF i hil
        have adds : ∀ k, (⟨b, o, none⟩ : Addr).add k = ⟨b, o + k, none⟩ := fun k => by unfold Addr.add; split <;> simp_all
        rw [adds] at q1
        match j, hj with
        | 0, hj => simp [encS] at hj; subst hj; exact q1
        | j + 1, hj => simp [encS] at hj
    · intro d hd
      simp at hd
      obtain ⟨i, hin, rfl⟩ := hd
      exact (hF i hin).2
end


section
variable {H : Type} {enc : TypeId × Value → H} {W : World} {base : Nat} {spare : Nat → Bool} {held : Bool}
theorem open_ints {r : Reach} {b0 : Nat} {v : Value} {d : DataW H} {p : List MemPlace} (hv : Value.okWide Try.prog W r b0 35 v) (h : DataW.Trod enc Try.prog W base spare held 35 v d p) :
    ∃ (A : Option Addr) (n c : Nat) (ss : List Int), v = .slice A n c ∧ SI W W.heap.size A n c ss := by
  obtain ⟨A, n, c, rfl⟩ := okWide_slice Try.underlying35 hv
  obtain ⟨fuel, hf⟩ := h
  refine ⟨A, n, c, ?_⟩
  have hc3 : Try.prog.cellsOf 3 = 1 := by kernel_rfl
  rcases Go.Deep.open_slice Try.underlying35 hf with ⟨h0, _⟩ | ⟨a, len, cap, m, k, Dd, Pl, hcs, hb, hl, hm, hmm, _, hi⟩
  · simp [Value.cells] at h0
    obtain ⟨rfl, rfl, rfl⟩ := h0
    exact ⟨[], rfl, Rd.nil_, rfl, Nat.le_refl _, by unfold maxLen; omega, by simp⟩
  · simp [Value.cells] at hcs
    obtain ⟨rfl, rfl, rfl⟩ := hcs
    have hlm : n ≤ m := by rw [hmm]; split <;> omega
    have hi2 : ∀ i, i < n → ∃ d : Int, W.cell? (a.add (i * 1)) = some (Value.int .i64 d) ∧ (-9223372036854775808 ≤ d ∧ d ≤ 9223372036854775807) := by
      intro i hin
      obtain ⟨cs', h1, h2⟩ := hi i (by omega)
      rw [hc3] at h1
      obtain ⟨_, hlen, hcell⟩ := World.cells?_some h1
      match cs', hlen with
      | [v0], _ =>
        have e0 := hcell 0 (by omega)
        obtain ⟨z0, q0, _, hw0⟩ := DataW.trod_int Try.underlying3 h2
        simp at q0
        subst q0
        refine ⟨z0, ?_, wf_bounds hw0⟩
        have e1 : (a.add (i * 1)).add 0 = a.add (i * 1) := by rw [Go.Deep.add_add]; rfl
        rw [e1] at e0
        simpa using e0
    obtain ⟨F, hF⟩ : ∃ F : Nat → Int, ∀ i, i < n → W.cell? (a.add (i * 1)) = some (Value.int .i64 (F i)) ∧ (fun d : Int => (-9223372036854775808 ≤ d ∧ d ≤ 9223372036854775807)) (F i) :=
      ⟨fun i => if h : i < n then (hi2 i h).choose else 0, fun i h => by simp only [dif_pos h]; exact (hi2 i h).choose_spec⟩
    refine ⟨(List.range n).map F, rfl, ?_, by simp, hl, hm, ?_⟩
    · rcases Nat.eq_zero_or_pos n with rfl | hpos
      · exact .inl rfl
      · have h0 := (hF 0 hpos).1
        obtain ⟨b, o, spot⟩ := a
        have hspot : spot = none := by simpa [Addr.add] using World.cell?_spot h0
        subst hspot
        refine .inr ⟨b, o, rfl, World.block_lt_of_cell? W _ (by simpa [Addr.add] using h0), fun i x hx j v hj => ?_⟩
        obtain ⟨hil, rfl⟩ := List.getElem?_eq_some_iff.1 hx
        simp at hil
        obtain ⟨q1, _⟩ := hF i hil
        have adds : ∀ k, (⟨b, o, none⟩ : Addr).add k = ⟨b, o + k, none⟩ := fun k => by unfold Addr.add; split <;> simp_all
        rw [adds] at q1
        match j, hj with
        | 0, hj => simp [encI] at hj; subst hj; exact q1
        | j + 1, hj => simp [encI] at hj
    · intro d hd
      simp at hd
      obtain ⟨i, hin, rfl⟩ := hd
      exact (hF i hin).2
end


end Go.Proofs.Ytcbhfaijlmckbaa
