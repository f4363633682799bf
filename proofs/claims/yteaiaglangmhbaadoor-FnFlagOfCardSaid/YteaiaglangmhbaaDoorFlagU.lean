import Derived.Test.YteaiaglangmhbaaDoorBaseE
import Derived.Test.YteaiaglangmhbaaDoorBaseC
import Derived.Test.YteaiaglangmhbaaDoorCel
namespace Go.Proofs.YteaiaglangmhbaaDoor
open Go.RowKit Go.Maps
set_option linter.unusedVariables false
set_option maxRecDepth 100000

/-! ### checkedFlag -/
/-! ### WithBound -/
def WithQ (ds : List D) (b2 : Int) (v : Bool) (es : List D) (rb : Int) : Prop := (v = true ∧ es = ds ∧ rb = b2) ∨ (v = false ∧ es = [] ∧ rb = 0)
theorem withQ_no {ds es : List D} {b2 rb : Int} {v : Bool} {w : World} (h : WithQ ds b2 v es rb) (hv : v = false) : FlagR es rb v w = FlagR [] 0 false w := by
  rcases h with ⟨h1, _⟩ | ⟨_, rfl, rfl⟩
  · rw [hv] at h1; cases h1
  · rw [hv]
theorem withQ_yes {ds es : List D} {b2 rb : Int} {v : Bool} {w : World} (h : WithQ ds b2 v es rb) (hv : v = true) : FlagR es rb v w = FlagR ds b2 true w := by
  rcases h with ⟨_, rfl, rfl⟩ | ⟨h1, _⟩
  · rw [hv]
  · rw [hv] at h1; cases h1
def mWith (ds : List D) (b b2 : Int) : Bool := vFlag ds b && vFlag ds b2
def withDs (ds : List D) (b b2 : Int) : List D := if mWith ds b b2 then ds else []
def withBd (ds : List D) (b b2 : Int) : Int := if mWith ds b b2 then b2 else 0
theorem withQ_is (ds : List D) (b b2 : Int) : WithQ ds b2 (mWith ds b b2) (withDs ds b b2) (withBd ds b b2) := by
  unfold WithQ withDs withBd; cases mWith ds b b2 <;> simp
theorem withDs_len (ds : List D) (b b2 : Int) : (withDs ds b b2).length ≤ 12 := by
  unfold withDs
  cases h : mWith ds b b2
  · exact Nat.zero_le _
  · unfold mWith at h
    simp at h
    exact vFlag_len h.1
theorem withDs_ok {ds : List D} {b b2 : Int} (h : ∀ d ∈ ds, d.ok) : ∀ d ∈ withDs ds b b2, d.ok := by
  intro d hd
  unfold withDs at hd
  split at hd
  · exact h d hd
  · cases hd
end Go.Proofs.YteaiaglangmhbaaDoor
