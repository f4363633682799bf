import Derived.Test.YtbkfagncoekbkaaGen
import Derived.Test.YtbkfagncoekbkaaBaseB
namespace Go.Proofs.Ytbkfagncoekbkaa
open Go.RowKit
set_option linter.unusedVariables false
set_option maxRecDepth 100000


theorem grown_undrew {w w' : World} {o : Obj} {row : Option Nat} (h : ((w.drewN 1).alloc o).grownBy w' row) : w.grownBy w' row :=
  (World.grownBy_alloc w o row).trans ⟨h.os, h.tape, h.output, h.size, h.block⟩

theorem small_set {ds : List D} (h : ∀ d ∈ ds, d.small) {k : Nat} (hk : k < ds.length) {d : D} (hd : ds[k].small → d.small) : ∀ x ∈ ds.set k d, x.small := by
  intro x hx
  rcases List.mem_or_eq_of_mem_set hx with h1 | rfl
  · exact h x h1
  · exact hd (h _ (List.getElem_mem hk))

theorem small_app {ds es : List D} (h : ∀ d ∈ ds, d.small) (h2 : ∀ d ∈ es, d.small) : ∀ d ∈ ds ++ es, d.small := by
  intro d hd
  rcases List.mem_append.1 hd with h1 | h1
  · exact h d h1
  · exact h2 d h1
/-- .. behind a change of one block that came behind w. -/
theorem grown_row {w W w' : World} {row : Option Nat} {g : Nat} (h : w.grownBy W row) (hg : W.grownBy w' (some g)) (hw : w.heap.size ≤ g) : w.grownBy w' row :=
  ⟨hg.os.trans h.os, hg.tape.trans h.tape, hg.output.trans h.output, Nat.le_trans h.size hg.size, fun k hk hr => (hg.block k (Nat.lt_of_lt_of_le hk h.size) (fun e => by cases e; omega)).trans (h.block k hk hr)⟩

theorem zero_small : (⟨ByteArray.empty, 0⟩ : D).small := ⟨by decide, by decide, by decide⟩

/-- A drawn enumeration: at most m definitions, q more steps of the reader at most. -/
def GenEP (m q R B : Nat) (A : Option Addr) (cb : Nat) (zs : List Int) (p : Nat) (w : World) (e : Ending) (w' : World) : Prop :=
  ∃ (A' : Option Addr) (c : Nat) (ds : List D) (p' : Nat), e = .returned (.agg #[.slice A' ds.length c]) ∧ ds.length ≤ m ∧ (∀ d ∈ ds, d.small) ∧
    w'.ownsRow w.heap.size 37 2 (.slice A' ds.length c) ds.length (flat ds) ∧ p' ≤ p + q ∧ w.grownBy w' (some R) ∧ Rdr w' R B A cb zs p'

theorem grown_frozen {w w' : World} {row : Option Nat} (hg : w.grownBy w' row) {a : Addr} {b : Bool} (hb : a.block < w.heap.size) (h : w.frozen? a = b) (hne : some a.block ≠ row) : w'.frozen? a = b :=
  (World.frozen?_of_block (hg.block a.block hb hne)).trans h
/-- .. behind a write into a block that came behind w. -/
theorem grown_set {w W : World} {row : Option Nat} (h : w.grownBy W row) {a : Addr} (ha : w.heap.size ≤ a.block) (v : Value) : w.grownBy (W.setCell a v) row :=
  grown_below h ((Below.refl _ _).setCell ha v)
theorem Rdr.set {W : World} {R B : Nat} {A : Option Addr} {cb : Nat} {zs : List Int} {p : Nat} (h : Rdr W R B A cb zs p) {a : Addr} (ha : R < a.block) (v : Value) : Rdr (W.setCell a v) R B A cb zs p :=
  h.belowL (L := a.block) ((Below.refl _ _).setCell (Nat.le_refl _) v) ha

set_option maxHeartbeats 1000000 in
theorem goodEnum_any (R B : Nat) (A : Option Addr) (cb : Nat) (zs : List Int) (p : Nat) (w : World) (h : Rdr w R B A cb zs p) (hp : p + 100 ≤ 100000) :
    Calls Try.prog 153 #[.pointer (some ⟨R, 0, none⟩)] w (GenEP 12 100 R B A cb zs p w) := by
  have HR := Lib.hid h
  have HL := Lib.hid h.lt
  clear h
  go_enter Try.func153, Try.ntmps153
  go_wp2_with fail
  have b1 : Below w.heap.size w (w.alloc (.cells #[.slice none 0 0] 58)) := (Below.refl _ _).alloc (Nat.le_refl _) _
  have hwR : w.heap.size ≠ R := by have := HL.out; omega
  refine (goodDefs_enum 1000 rfl R B A cb zs p _ (HR.out.below b1) hp).mono ?_
  rintro e w1 ⟨A', c, ds, p', rfl, hn, hsm, hown, hp', hg, hr⟩
  have c1 : w1.cell? ⟨w.heap.size, 0, none⟩ = some (.slice none 0 0) := hg.cell (by simp [go_sem]) (by simpa using hwR)
  have f1 : w1.frozen? ⟨w.heap.size, 0, none⟩ = false := grown_frozen hg (by simp) (by simp [go_sem]) (by simpa using hwR)
  have HG := Lib.hid hg
  have HO := Lib.hid hown
  have HR1 := Lib.hid hr
  have HS := Lib.hid hsm
  have hne : w.heap.size < w1.heap.size := by have := hg.size; simp at this; omega
  clear hg hown hr hsm b1
  go_wp2
  refine bodyPost_ret (v := .agg #[.slice A' ds.length c]) (by simp [results, Try.results153, go_sem, c1]) rfl ⟨A', c, ds, p', rfl, hn, HS.out, ?_, hp', ?_, ?_⟩
  · exact own_setCell (own_base HO.out (by simp)) (fun e => by have := (HO.out.lt _ e).1; simp at this; omega) _
  · exact grown_set ((World.grownBy_alloc _ _ _).trans HG.out) (Nat.le_refl _) _
  · exact HR1.out.set HL.out _
end Go.Proofs.Ytbkfagncoekbkaa
