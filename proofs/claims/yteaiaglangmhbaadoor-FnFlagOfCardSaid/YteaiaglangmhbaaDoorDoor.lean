import Derived.Test.YteaiaglangmhbaaDoorEnuT
import Derived.Test.YteaiaglangmhbaaDoorOpen
import Derived.Test.YteaiaglangmhbaaDoorTie
import Derived.Test.YteaiaglangmhbaaDoorCards
import Derived.LaidMore
import Derived.Stop.Joined
import Derived.Stop.LaidErr
import Derived.MakeChecks
import Derived.Lib.LaidTab
import Derived.SevenTiedAt
namespace Go.Proofs.YteaiaglangmhbaaDoor
open Go.ChangeShapes Go.WideShapes Go.ChangeAt Go.RowKit
set_option linter.unusedVariables false
set_option maxRecDepth 100000

/-! ### the tables that the rows of this seat list -/
def laidL : List (String × DataW Unit) := [("math/bits.deBruijn32tab", Rows.laid_math_bits_deBruijn32tab), ("math/bits.deBruijn64tab", Rows.laid_math_bits_deBruijn64tab)]
def laidK : List LaidKind := [.data, .data]
theorem door_met (os : Os) (args : Array Value) : laidMetH Tryd.prog laidL ((World.doorLaid Tryd.prog 400 os).forCall (fun _ _ => 0) ⟨#[], args, []⟩).memory :=
  laidMetH_of_parts3 (fuel := 8) (laidMet_of_run' 8 (by kernel_rfl) (by kernel_rfl)) (by kernel_rfl) (by kernel_rfl)
theorem tab_of_laid {W : World} (h : laidMetH Tryd.prog laidL W) : TabAt W := by
  rw [MakeChecks.laidMetH_plain _ _ _ (by kernel_rfl)] at h
  have h2 := h.tail
  have ht : Lib.TabIs Tryd.prog W "math/bits.deBruijn64tab" .u8 tzTab :=
    Lib.tabIs_of_head (rest := []) (g := 1) (t := 108) (e := 5) (n := 64) (by kernel_rfl) (by kernel_rfl) (by kernel_rfl) (by kernel_rfl) (by kernel_rfl) (by kernel_rfl) h2
  exact fun j hj => ht.cell (g := 1) (by kernel_rfl) j hj
/-- The table, carried from world to world. -/
structure Tb (w : World) (B : Nat) : Prop where
  at_ : TabAt w
  lt : 1 < B
theorem Tb.below {w w' : World} {B : Nat} (h : Tb w B) (hb : Below B w w') : Tb w' B := ⟨h.at_.below hb h.lt, h.lt⟩
theorem Tb.call {w : World} {B : Nat} (h : Tb w B) (hB : B ≤ w.heap.size) : Tb w w.heap.size := ⟨h.at_, Nat.lt_of_lt_of_le h.lt hB⟩
theorem Tb.drew {w : World} {B : Nat} (h : Tb w B) : Tb w.drew B := ⟨h.at_.below ((Below.refl B w).drew) h.lt, h.lt⟩
theorem Tb.drewN {w : World} {B : Nat} (h : Tb w B) (k : Nat) : Tb (w.drewN k) B := ⟨h.at_.below (below_drewN (Below.refl B w) k) h.lt, h.lt⟩
theorem TabAt.size {W : World} (h : TabAt W) : 1 < W.heap.size := World.block_lt_of_cell? W _ (h 0 (by decide))
end Go.Proofs.YteaiaglangmhbaaDoor
