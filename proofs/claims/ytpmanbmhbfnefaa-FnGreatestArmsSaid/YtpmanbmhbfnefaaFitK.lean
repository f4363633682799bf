import Derived.Test.YtpmanbmhbfnefaaFitI
import Derived.Test.YtpmanbmhbfnefaaFitJ
import Derived.Test.YtpmanbmhbfnefaaAlgS
namespace Go.Proofs.Ytpmanbmhbfnefaa
open Go.RowKit Go.Shelf
set_option linter.unusedVariables false
set_option linter.unusedSimpArgs false
set_option maxRecDepth 100000
attribute [local go_sem] Oper.semAt_some

/-! ### the definitions that fit, for a body that grows a row of definitions -/
/-- The block g is that of the slice in the box Bs. -/
def ownIn (Bs : Nat) (W : World) (g : Nat) : Prop := ∃ v, W.cell? ⟨Bs, 0, none⟩ = some v ∧ v.ownBlock = some g
theorem ownIn_back {Bs g : Nat} {W W' : World} (h : Below W.heap.size W W') (hBs : Bs < W.heap.size) (ho : ownIn Bs W' g) : ownIn Bs W g := by
  obtain ⟨v, h1, h2⟩ := ho
  exact ⟨v, (h.cell (p := ⟨Bs, 0, none⟩) hBs).symm.trans h1, h2⟩
/-- What lay below n₀ is as it was, and so is every block of definitions but that of the slice in Bs; which block is not that slice's stays so. -/
def KpO (n₀ Bs : Nat) (W W' : World) : Prop := Below n₀ W W' ∧ ∀ g, g < W.heap.size → ¬ ownIn Bs W g → ¬ ownIn Bs W' g ∧ ∀ (cs : Array Value) (r : Nat × Nat), W.heap[g]? = some (Obj.cells cs 48 r) → W'.heap[g]? = some (Obj.cells cs 48 r)
theorem KpO.refl (n₀ Bs : Nat) (W : World) : KpO n₀ Bs W W := ⟨Below.refl _ _, fun g _ h => ⟨h, fun _ _ h => h⟩⟩
theorem KpO.trans {n₀ Bs : Nat} {A B C : World} (h : KpO n₀ Bs A B) (k : KpO n₀ Bs B C) : KpO n₀ Bs A C :=
  ⟨h.1.trans k.1, fun g hg hn => by
    obtain ⟨h1, h2⟩ := h.2 g hg hn
    obtain ⟨k1, k2⟩ := k.2 g (Nat.lt_of_lt_of_le hg h.1.size) h1
    exact ⟨k1, fun cs r hc => k2 cs r (h2 cs r hc)⟩⟩
theorem KpO.below {n₀ Bs : Nat} {W W' : World} (h : Below W.heap.size W W') (hn : n₀ ≤ W.heap.size) (hBs : Bs < W.heap.size) : KpO n₀ Bs W W' :=
  ⟨h.mono hn, fun g hg ho => ⟨fun k => ho (ownIn_back h hBs k), fun cs r hc => (h.block g hg).trans hc⟩⟩
theorem KpO.own {n₀ Bs base n : Nat} {v : Value} {xs : List Value} {W W' : World} (hk : KpO n₀ Bs W W') (h : W.ownsRow base 48 2 v n xs) (hno : ∀ g, v.ownBlock = some g → ¬ ownIn Bs W g) : W'.ownsRow base 48 2 v n xs ∧ ∀ g, v.ownBlock = some g → ¬ ownIn Bs W' g := by
  refine ⟨⟨h.1, ?_⟩, fun g hg => (hk.2 g (h.lt g hg).2 (hno g hg)).1⟩
  rcases h.2 with hn | ⟨g, cap, cur, rfl, h1, hg, rest⟩
  · exact .inl hn
  · exact .inr ⟨g, cap, cur, rfl, h1, (hk.2 g (h.lt g rfl).2 (hno g rfl)).2 _ _ hg, rest⟩

end Go.Proofs.Ytpmanbmhbfnefaa
