import Derived.Test.YtpmanbmhbfnefaaGenX
import Derived.Test.YtpmanbmhbfnefaaArms
import Derived.Deep.DeepCutAuto
namespace Go.Proofs.Ytpmanbmhbfnefaa
open Go.RowKit
set_option linter.unusedVariables false
set_option linter.unusedSimpArgs false
set_option maxRecDepth 100000

/-- A small arm. -/
def Ar.small (a : Ar) : Prop := (-60000 ≤ a.all ∧ a.all ≤ 60000) ∧ (-60000 ≤ a.non ∧ a.non ≤ 60000)
theorem Ar.small_ok {a : Ar} (h : a.small) : a.ok := by
  obtain ⟨h1, h2⟩ := h
  exact ⟨by unfold I64; omega, by unfold I64; omega⟩
/-- A drawn list of arms, and the reader behind it. -/
def ArsP (R B : Nat) (A : Option Addr) (cb : Nat) (zs : List Int) (p : Nat) (w : World) (e : Ending) (w' : World) : Prop :=
  ∃ (A' : Option Addr) (c : Nat) (rs : List Ar) (p' : Nat), e = .returned (.slice A' rs.length c) ∧ rs.length ≤ 7 ∧ (∀ a ∈ rs, a.small) ∧
    w'.ownsRow w.heap.size 72 2 (.slice A' rs.length c) rs.length (flatA rs) ∧ p' ≤ p + 150 ∧ w.grownBy w' (some R) ∧ Rdr w' R B A cb zs p'
theorem small_snoc {rs : List Ar} (h : ∀ a ∈ rs, a.small) {a : Ar} (ha : a.small) : ∀ x ∈ rs ++ [a], x.small := by
  intro x hx
  rcases List.mem_append.1 hx with h1 | h1
  · exact h x h1
  · rw [List.mem_singleton.1 h1]; exact ha
/-- Two cells of a literal list. -/
theorem lit2 {V : World} {g : Nat} {x : Int} (h0 : V.cell? ⟨g, 0, none⟩ = some (.int .i64 x)) (h1 : V.cell? ⟨g, 1, none⟩ = some (.int .i64 0)) (hx : -60000 ≤ x ∧ x ≤ 60000) : ∀ i, i < 2 → ∃ v : Int, V.cell? ⟨g, i, none⟩ = some (.int .i64 v) ∧ -60000 ≤ v ∧ v ≤ 60000 := by
  intro i hi
  rcases (show i = 0 ∨ i = 1 by omega) with rfl | rfl
  · exact ⟨x, h0, hx⟩
  · exact ⟨0, h1, by omega, by omega⟩
theorem ownLowAr {w w' : World} {base L : Nat} {e : TypeId} {sz : Nat} {v : Value} {n : Nat} {xs : List Value} (h : w.ownsRow base e sz v n xs) (hb : Below L w w') (hlt : ∀ q, v.ownBlock = some q → q < L) : w'.ownsRow base e sz v n xs := by
  refine ⟨h.1, ?_⟩
  rcases h.2 with hn | ⟨g, cap, cur, rfl, h1, hg, rest⟩
  · exact .inl hn
  · exact .inr ⟨g, cap, cur, rfl, h1, (hb.block g (hlt g rfl)).trans hg, rest⟩
end Go.Proofs.Ytpmanbmhbfnefaa
