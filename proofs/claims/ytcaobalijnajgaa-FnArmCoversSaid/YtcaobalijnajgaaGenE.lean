import Derived.Test.YtcaobalijnajgaaGen
import Derived.Test.YtcaobalijnajgaaBaseB
namespace Go.Proofs.Ytcaobalijnajgaa
open Go.RowKit
set_option linter.unusedVariables false
set_option maxRecDepth 100000


theorem grown_undrew {w w' : World} {o : Obj} {row : Option Nat} (h : ((w.drewN 1).alloc o).grownBy w' row) : w.grownBy w' row :=
  (World.grownBy_alloc w o row).trans ⟨h.os, h.tape, h.output, h.size, h.block⟩

theorem small_set {ds : List D} (h : ∀ d ∈ ds, d.small) {k : Nat} (hk : k < ds.length) {d : D} (hd : ds[k].small → d.small) : ∀ x ∈ ds.set k d, x.small := by
  intro x hx
  rcases List.mem_or_eq_of_mem_set hx with h1 | rfl
  · exact h x h1
  · exact hd (h _ (List.getElem_mem hk))

theorem small_app {ds es : List D} (h : ∀ d ∈ ds, d.small) (h2 : ∀ d ∈ es, d.small) : ∀ d ∈ ds ++ es, d.small := by
  intro d hd
  rcases List.mem_append.1 hd with h1 | h1
  · exact h d h1
  · exact h2 d h1
/-- .. behind a change of one block that came behind w. -/
theorem grown_row {w W w' : World} {row : Option Nat} {g : Nat} (h : w.grownBy W row) (hg : W.grownBy w' (some g)) (hw : w.heap.size ≤ g) : w.grownBy w' row :=
  ⟨hg.os.trans h.os, hg.tape.trans h.tape, hg.output.trans h.output, Nat.le_trans h.size hg.size, fun k hk hr => (hg.block k (Nat.lt_of_lt_of_le hk h.size) (fun e => by cases e; omega)).trans (h.block k hk hr)⟩

theorem zero_small : (⟨ByteArray.empty, 0⟩ : D).small := ⟨by decide, by decide, by decide⟩

/-- A drawn enumeration: at most m definitions, q more steps of the reader at most. -/
def GenEP (m q R B : Nat) (A : Option Addr) (cb : Nat) (zs : List Int) (p : Nat) (w : World) (e : Ending) (w' : World) : Prop :=
  ∃ (A' : Option Addr) (c : Nat) (ds : List D) (p' : Nat), e = .returned (.agg #[.slice A' ds.length c]) ∧ ds.length ≤ m ∧ (∀ d ∈ ds, d.small) ∧
    w'.ownsRow w.heap.size 104 2 (.slice A' ds.length c) ds.length (flat ds) ∧ p' ≤ p + q ∧ w.grownBy w' (some R) ∧ Rdr w' R B A cb zs p'

theorem grown_frozen {w w' : World} {row : Option Nat} (hg : w.grownBy w' row) {a : Addr} {b : Bool} (hb : a.block < w.heap.size) (h : w.frozen? a = b) (hne : some a.block ≠ row) : w'.frozen? a = b :=
  (World.frozen?_of_block (hg.block a.block hb hne)).trans h
/-- .. behind a write into a block that came behind w. -/
theorem grown_set {w W : World} {row : Option Nat} (h : w.grownBy W row) {a : Addr} (ha : w.heap.size ≤ a.block) (v : Value) : w.grownBy (W.setCell a v) row :=
  grown_below h ((Below.refl _ _).setCell ha v)
theorem Rdr.set {W : World} {R B : Nat} {A : Option Addr} {cb : Nat} {zs : List Int} {p : Nat} (h : Rdr W R B A cb zs p) {a : Addr} (ha : R < a.block) (v : Value) : Rdr (W.setCell a v) R B A cb zs p :=
  h.belowL (L := a.block) ((Below.refl _ _).setCell (Nat.le_refl _) v) ha

end Go.Proofs.Ytcaobalijnajgaa
