import Derived.Test.YtpmanbmhbfnefaaBaseB
import Derived.ProofKit
import Derived.OpenShut
import Derived.ShutString
import Derived.ChangeOld
import Derived.ChangeSame
import Derived.Deep.SlicePairs
import Derived.Lib.SmallJoins
namespace Go.Proofs.Ytpmanbmhbfnefaa
open Go.ChangeShapes Go.WideShapes Go.ChangeAt Go.RowKit Go.Deep Go.Joins
open Go.ChangeMaps (open_string shut_string)
set_option linter.unusedVariables false
set_option maxRecDepth 100000

theorem own : ownKnob Try.prog.godebug = none := by kernel_rfl
theorem laidOut : laidOutB Try.prog = true := by kernel_rfl

theorem wf_bounds {v : Int} (h : (Lit.int .i64 v).wf = true) : -9223372036854775808 ≤ v ∧ v ≤ 9223372036854775807 := by
  exact bounds_i64 h

section
variable {H : Type} {enc : TypeId × Value → H} {W : World} {base : Nat} {spare : Nat → Bool} {held : Bool}
theorem open_defs {fuel : Nat} {A : Option Addr} {n c : Nat} {x : DataW H × List MemPlace} (h : DataW.trod enc Try.prog W base spare held fuel 22 [.slice A n c] = some x) : ∃ ds, SD W W.heap.size A n c ds := by
  rcases open_slice_pairs Try.underlying22 Try.underlying76 (by kernel_rfl) rfl rfl (by kernel_rfl) (by kernel_rfl) h with ⟨h0, _⟩ | ⟨a, len, cap, m, k, V0, V1, D0, D1, P0, P1, hcs, hb, hl, hm, hmm, hx, hi⟩
  · simp at h0
    obtain ⟨rfl, rfl, rfl⟩ := h0
    exact ⟨[], Rd.nil_, rfl, Nat.le_refl _, by unfold maxLen; omega, by simp⟩
  · simp at hcs
    obtain ⟨rfl, rfl, rfl⟩ := hcs
    have hlm : n ≤ m := by rw [hmm]; split <;> omega
    have hi2 : ∀ i, i < n → ∃ d : D, W.cell? (a.add (i * 2)) = some (.string d.name) ∧ W.cell? (a.add (i * 2 + 1)) = some (.int .i64 d.val) ∧ d.ok := by
      intro i hin
      obtain ⟨h1, h2, h3, h4⟩ := hi i (by omega)
      obtain ⟨s, e1, _, hs⟩ := DataW.trod_string Try.underlying9 h3
      obtain ⟨v, e2, _, hv⟩ := DataW.trod_int Try.underlying3 h4
      simp at e1 e2
      exact ⟨⟨s, v⟩, by rw [h1, e1], by rw [h2, e2], hs, wf_bounds hv⟩
    obtain ⟨F, hF⟩ : ∃ F : Nat → D, ∀ i, i < n → W.cell? (a.add (i * 2)) = some (.string (F i).name) ∧ W.cell? (a.add (i * 2 + 1)) = some (.int .i64 (F i).val) ∧ (F i).ok :=
      ⟨fun i => if h : i < n then (hi2 i h).choose else ⟨ByteArray.empty, 0⟩, fun i h => by simp only [dif_pos h]; exact (hi2 i h).choose_spec⟩
    refine ⟨(List.range n).map F, ?_, by simp, hl, hm, ?_⟩
    · rcases Nat.eq_zero_or_pos n with rfl | hpos
      · exact .inl rfl
      · have h0 := (hF 0 hpos).1
        obtain ⟨b, o, spot⟩ := a
        have hspot : spot = none := by simpa [Addr.add] using World.cell?_spot h0
        subst hspot
        refine .inr ⟨b, o, rfl, World.block_lt_of_cell? W _ (by simpa [Addr.add] using h0), fun i x hx j v hj => ?_⟩
        obtain ⟨hil, rfl⟩ := List.getElem?_eq_some_iff.1 hx
        simp at hil
        obtain ⟨q1, q2, _⟩ := hF i hil
        have adds : ∀ k, (⟨b, o, none⟩ : Addr).add k = ⟨b, o + k, none⟩ := fun k => by unfold Addr.add; split <;> simp_all
        rw [adds] at q1 q2
        match j, hj with
        | 0, hj => simp [encD] at hj; subst hj; exact q1
        | 1, hj => simp [encD] at hj; subst hj; exact q2
        | j + 2, hj => simp [encD] at hj
    · intro d hd
      simp at hd
      obtain ⟨i, hin, rfl⟩ := hd
      exact (hF i hin).2.2

theorem open_enum {r : Reach} {b0 : Nat} {v : Value} {d : DataW H} {p : List MemPlace} (hv : Value.okWide Try.prog W r b0 24 v) (h : DataW.Trod enc Try.prog W base spare held 24 v d p) :
    ∃ (A : Option Addr) (n c : Nat) (ds : List D), v = .agg #[.slice A n c] ∧ SD W W.heap.size A n c ds := by
  obtain ⟨cs, rfl, hsz⟩ := okWide_struct Try.underlying24 hv
  obtain ⟨l⟩ := cs
  match l, hsz.trans (show Try.prog.cellsOf 24 = 1 by kernel_rfl) with
  | [c0], _ =>
    obtain ⟨fuel, hf⟩ := h
    obtain ⟨y0, n, hx, _, h0⟩ := trod_struct1 Try.underlying24 hf
    have h1 : DataW.trod enc Try.prog W base spare held n 22 [c0] = some y0 := by
      have e2 : Try.prog.cellsOf 22 = 1 := by kernel_rfl
      simpa [Value.cells, e2] using h0
    have h2 : ∃ A k c, c0 = .slice A k c := by
      rcases open_slice Try.underlying22 h1 with ⟨h0, _⟩ | ⟨a, len, cap, m, k, D, Pl, hcs, _⟩
      · simp at h0; exact ⟨_, _, _, h0⟩
      · simp at hcs; exact ⟨_, _, _, hcs⟩
    obtain ⟨A, k, c, rfl⟩ := h2
    obtain ⟨ds, hd⟩ := open_defs h1
    exact ⟨A, k, c, ds, rfl, hd⟩
theorem open_def {r : Reach} {b0 : Nat} {v : Value} {d : DataW H} {p : List MemPlace} (hv : Value.okWide Try.prog W r b0 76 v) (h : DataW.Trod enc Try.prog W base spare held 76 v d p) :
    ∃ x : D, v = .agg #[.string x.name, .int .i64 x.val] ∧ x.ok := by
  obtain ⟨v0, v1, y0, y1, n, rfl, _, _, h0, h1⟩ := open_agg2 Try.underlying76 (by kernel_rfl) (by kernel_rfl) hv h
  obtain ⟨s, e1, _, hs⟩ := DataW.trod_string Try.underlying9 h0
  obtain ⟨z, e2, _, hz⟩ := DataW.trod_int Try.underlying3 h1
  simp at e1 e2
  subst e1 e2
  exact ⟨⟨s, z⟩, rfl, hs, wf_bounds hz⟩
end
end Go.Proofs.Ytpmanbmhbfnefaa
