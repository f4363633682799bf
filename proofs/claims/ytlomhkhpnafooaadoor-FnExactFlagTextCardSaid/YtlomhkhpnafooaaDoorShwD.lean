import Derived.Test.YtlomhkhpnafooaaDoorBaseY
import Derived.Test.YtlomhkhpnafooaaDoorOpen
import Derived.Test.YtlomhkhpnafooaaDoorTie
import Derived.Test.YtlomhkhpnafooaaDoorCards
import Derived.LaidMore
import Derived.Stop.Joined
import Derived.Stop.LaidErr
import Derived.MakeChecks
import Derived.Lib.LaidTab
import Derived.SevenTiedAt
namespace Go.Proofs.YtlomhkhpnafooaaDoor
open Go.ChangeShapes Go.WideShapes Go.ChangeAt Go.RowKit
set_option linter.unusedVariables false
set_option maxRecDepth 100000

/-! ### the tables that the rows of this seat list -/
def laidL : List (String × DataW Unit) := [("math/bits.deBruijn32tab", Rows.laid_math_bits_deBruijn32tab), ("math/bits.deBruijn64tab", Rows.laid_math_bits_deBruijn64tab), ("internal/strconv.uint64pow10", Rows.laid_internal_strconv_uint64pow10)]
def laidK : List LaidKind := [.data, .data, .data]
theorem door_met (os : Os) (args : Array Value) : laidMetH Tryd.prog laidL ((World.doorLaid Tryd.prog 400 os).forCall (fun _ _ => 0) ⟨#[], args, []⟩).memory :=
  laidMetH_of_parts3 (fuel := 8) (laidMet_of_run' 8 (by kernel_rfl) (by kernel_rfl)) (by kernel_rfl) (by kernel_rfl)
abbrev TabAt (w : World) : Prop := P10 w
theorem tab_of_laid {W : World} (h : laidMetH Tryd.prog laidL W) : TabAt W := by
  rw [MakeChecks.laidMetH_plain _ _ _ (by kernel_rfl)] at h
  exact Lib.tabIs_of_head (rest := []) (g := 1) (t := 195) (e := 179) (n := 20) (by kernel_rfl) (by kernel_rfl) (by kernel_rfl) (by kernel_rfl) (by kernel_rfl) (by kernel_rfl) h.tail.tail
theorem TabAt.size {W : World} (h : TabAt W) : p10G < W.heap.size := World.block_lt_of_cell? W _ (Lib.TabIs.cell (show Lib.TabIs Tryd.prog W "internal/strconv.uint64pow10" .u64 Lib.pow10Tab from h) (g := p10G) (by kernel_rfl) 0 (by decide))
/-- The table, carried from world to world. -/
structure Tb (w : World) (B : Nat) : Prop where
  at_ : TabAt w
  lt : p10G < B
theorem Tb.below {w w' : World} {B : Nat} (h : Tb w B) (hb : Below B w w') : Tb w' B := ⟨P10.below h.at_ hb h.lt, h.lt⟩
theorem Tb.call {w : World} {B : Nat} (h : Tb w B) (hB : B ≤ w.heap.size) : Tb w w.heap.size := ⟨h.at_, Nat.lt_of_lt_of_le h.lt hB⟩
theorem Tb.drew {w : World} {B : Nat} (h : Tb w B) : Tb w.drew B := ⟨P10.below h.at_ ((Below.refl B w).drew) h.lt, h.lt⟩
theorem Tb.drewN {w : World} {B : Nat} (h : Tb w B) (k : Nat) : Tb (w.drewN k) B := ⟨P10.below h.at_ (below_drewN (Below.refl B w) k) h.lt, h.lt⟩
end Go.Proofs.YtlomhkhpnafooaaDoor
