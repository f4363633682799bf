/-
  DERIVED. GIVEN WITH THE SEED: THE CARDS: each row of YteaiaglangmhbaaDoorRows.lean that lists a variable, with what it lists TIED to the program's text (the seventh form; the later family's looks); each row that meets fmt, with fmt's text TOLD by the authors' own Lean function (tested against real Go, not proved from fmt's source: count such statements apart). THE CARD IS WHAT COUNTS. Prove the row's statement (the work); the ties are given (YteaiaglangmhbaaDoorTie.lean); close each card by the builder's one call (the guide's Derived/Test/ToyasCard.lean, 'card_holds'). Laid BY PROGRAM, IN A SANDBOX (cutbox-door.mjs). By AI agents, Wed Nov 11 2026. No macro, syntax, notation, axiom, sorry.
-/
import Derived.Test.YteaiaglangmhbaaDoorRows
import GoSem.ClaimSeven
namespace Go.Proofs.YteaiaglangmhbaaDoor
namespace Rows

/-- THE TIED CARD OF 'laws.FnExactEnumOf'. -/
def fnExactEnumOfCard : Claim7 := { stood := { row := fnExactEnumOfRow, standIns := [], harness := (true, "090a9a395c54970b1e1a728878238aa447a2bc9e612c981be10de5d5853b5261"), looks := false }, kinds := [], alts := [], laidByText := true, laidKinds := [.data, .data], laidTests := true, laidLooks := .later }
def FnExactEnumOfCardSaid : Prop := Claim7.holds Tryd.pinned (.plain (OpenSpec.ofChange fnExactEnumOfSpec)) fnExactEnumOfCard

/-- THE TIED CARD OF 'laws.FnEnumOf'. -/
def fnEnumOfCard : Claim7 := { stood := { row := fnEnumOfRow, standIns := [], harness := (true, "090a9a395c54970b1e1a728878238aa447a2bc9e612c981be10de5d5853b5261"), looks := false }, kinds := [], alts := [], laidByText := true, laidKinds := [.data, .data], laidTests := true, laidLooks := .later }
def FnEnumOfCardSaid : Prop := Claim7.holds Tryd.pinned (.plain (OpenSpec.ofChange fnEnumOfSpec)) fnEnumOfCard

/-- THE TIED CARD OF 'laws.FnFlagOf'. -/
def fnFlagOfCard : Claim7 := { stood := { row := fnFlagOfRow, standIns := [], harness := (true, "090a9a395c54970b1e1a728878238aa447a2bc9e612c981be10de5d5853b5261"), looks := false }, kinds := [], alts := [], laidByText := true, laidKinds := [.data, .data], laidTests := true, laidLooks := .later }
def FnFlagOfCardSaid : Prop := Claim7.holds Tryd.pinned (.plain (OpenSpec.ofChange fnFlagOfSpec)) fnFlagOfCard

/-- THE SECOND FORM's CARD OF 'laws.FnExactEnumOf'. -/
def fnExactEnumOfUptoCard : Claim7 := { stood := { row := fnExactEnumOfUptoRow, standIns := [], harness := (true, "090a9a395c54970b1e1a728878238aa447a2bc9e612c981be10de5d5853b5261"), looks := false }, kinds := [], alts := [], laidByText := true, laidKinds := [.data, .data], laidTests := true, laidLooks := .later }
def FnExactEnumOfUptoCardSaid : Prop := Claim7.holds Tryd.pinned (.plain (OpenSpec.upto fnExactEnumOfSpec)) fnExactEnumOfUptoCard

/-- THE SECOND FORM's CARD OF 'laws.FnEnumOf'. -/
def fnEnumOfUptoCard : Claim7 := { stood := { row := fnEnumOfUptoRow, standIns := [], harness := (true, "090a9a395c54970b1e1a728878238aa447a2bc9e612c981be10de5d5853b5261"), looks := false }, kinds := [], alts := [], laidByText := true, laidKinds := [.data, .data], laidTests := true, laidLooks := .later }
def FnEnumOfUptoCardSaid : Prop := Claim7.holds Tryd.pinned (.plain (OpenSpec.upto fnEnumOfSpec)) fnEnumOfUptoCard

/-- THE SECOND FORM's CARD OF 'laws.FnFlagOf'. -/
def fnFlagOfUptoCard : Claim7 := { stood := { row := fnFlagOfUptoRow, standIns := [], harness := (true, "090a9a395c54970b1e1a728878238aa447a2bc9e612c981be10de5d5853b5261"), looks := false }, kinds := [], alts := [], laidByText := true, laidKinds := [.data, .data], laidTests := true, laidLooks := .later }
def FnFlagOfUptoCardSaid : Prop := Claim7.holds Tryd.pinned (.plain (OpenSpec.upto fnFlagOfSpec)) fnFlagOfUptoCard
end Rows
end Go.Proofs.YteaiaglangmhbaaDoor
