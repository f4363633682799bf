/-
  DERIVED. GIVEN WITH THE SEED: THE CARDS: each row of YtboehlffbibgmaaDoorRows.lean that lists a variable, with what it lists TIED to the program's text (the seventh form; the later family's looks); each row that meets fmt, with fmt's text TOLD by the authors' own Lean function (tested against real Go, not proved from fmt's source: count such statements apart). THE CARD IS WHAT COUNTS. Prove the row's statement (the work); the ties are given (YtboehlffbibgmaaDoorTie.lean); close each card by the builder's one call (the guide's Derived/Test/ToyasCard.lean, 'card_holds'). Laid BY PROGRAM, IN A SANDBOX (cutbox-door.mjs). By AI agents, Wed Nov 11 2026. No macro, syntax, notation, axiom, sorry.
-/
import Derived.Test.YtboehlffbibgmaaDoorRows
import GoSem.ClaimSeven
namespace Go.Proofs.YtboehlffbibgmaaDoor
namespace Rows

/-- THE TIED CARD OF 'laws.FnExactShowValue'. -/
def fnExactShowValueCard : Claim7 := { stood := { row := fnExactShowValueRow, standIns := [], harness := (true, "c7d53198b543c5c099085549295f32700e5de96f225bd19d99b467d07ca35451"), looks := true }, kinds := [], alts := [], laidByText := true, laidKinds := [.data, .data, .data], laidTests := true, laidLooks := .later }
def FnExactShowValueCardSaid : Prop := Claim7.holds Tryd.pinned (.plain (OpenSpec.ofChange fnExactShowValueSpec)) fnExactShowValueCard

/-- THE TIED CARD OF 'laws.FnExactReadValue'. -/
def fnExactReadValueCard : Claim7 := { stood := { row := fnExactReadValueRow, standIns := [], harness := (true, "c7d53198b543c5c099085549295f32700e5de96f225bd19d99b467d07ca35451"), looks := true }, kinds := [], alts := [], laidByText := true, laidKinds := [.data, .data, .data, .data, .sentinel, .sentinel, .pinned], laidTests := true, laidLooks := .later }
def FnExactReadValueCardSaid : Prop := Claim7.holds Tryd.pinned (.plain (OpenSpec.ofChange fnExactReadValueSpec)) fnExactReadValueCard

/-- THE TIED CARD OF 'laws.FnExactShowShort'. -/
def fnExactShowShortCard : Claim7 := { stood := { row := fnExactShowShortRow, standIns := [], harness := (true, "c7d53198b543c5c099085549295f32700e5de96f225bd19d99b467d07ca35451"), looks := true }, kinds := [], alts := [], laidByText := true, laidKinds := [.data, .data, .data], laidTests := true, laidLooks := .later }
def FnExactShowShortCardSaid : Prop := Claim7.holds Tryd.pinned (.plain (OpenSpec.ofChange fnExactShowShortSpec)) fnExactShowShortCard

/-- THE TIED CARD OF 'laws.FnExactShowEnum'. -/
def fnExactShowEnumCard : Claim7 := { stood := { row := fnExactShowEnumRow, standIns := [], harness := (true, "c7d53198b543c5c099085549295f32700e5de96f225bd19d99b467d07ca35451"), looks := true }, kinds := [], alts := [], laidByText := true, laidKinds := [.data, .data, .data], laidTests := true, laidLooks := .later }
def FnExactShowEnumCardSaid : Prop := Claim7.holds Tryd.pinned (.plain (OpenSpec.ofChange fnExactShowEnumSpec)) fnExactShowEnumCard

/-- THE TIED CARD OF 'laws.FnShowEnum'. -/
def fnShowEnumCard : Claim7 := { stood := { row := fnShowEnumRow, standIns := [], harness := (true, "c7d53198b543c5c099085549295f32700e5de96f225bd19d99b467d07ca35451"), looks := true }, kinds := [], alts := [], laidByText := true, laidKinds := [.data, .data, .data], laidTests := true, laidLooks := .later }
def FnShowEnumCardSaid : Prop := Claim7.holds Tryd.pinned (.plain (OpenSpec.ofChange fnShowEnumSpec)) fnShowEnumCard

/-- THE SECOND FORM's CARD OF 'laws.FnExactShowValue'. -/
def fnExactShowValueUptoCard : Claim7 := { stood := { row := fnExactShowValueUptoRow, standIns := [], harness := (true, "c7d53198b543c5c099085549295f32700e5de96f225bd19d99b467d07ca35451"), looks := true }, kinds := [], alts := [], laidByText := true, laidKinds := [.data, .data, .data], laidTests := true, laidLooks := .later }
def FnExactShowValueUptoCardSaid : Prop := Claim7.holds Tryd.pinned (.plain (OpenSpec.upto fnExactShowValueSpec)) fnExactShowValueUptoCard

/-- THE SECOND FORM's CARD OF 'laws.FnExactReadValue'. -/
def fnExactReadValueUptoCard : Claim7 := { stood := { row := fnExactReadValueUptoRow, standIns := [], harness := (true, "c7d53198b543c5c099085549295f32700e5de96f225bd19d99b467d07ca35451"), looks := true }, kinds := [], alts := [], laidByText := true, laidKinds := [.data, .data, .data, .data, .sentinel, .sentinel, .pinned], laidTests := true, laidLooks := .later }
def FnExactReadValueUptoCardSaid : Prop := Claim7.holds Tryd.pinned (.plain (OpenSpec.upto fnExactReadValueSpec)) fnExactReadValueUptoCard

/-- THE SECOND FORM's CARD OF 'laws.FnExactShowShort'. -/
def fnExactShowShortUptoCard : Claim7 := { stood := { row := fnExactShowShortUptoRow, standIns := [], harness := (true, "c7d53198b543c5c099085549295f32700e5de96f225bd19d99b467d07ca35451"), looks := true }, kinds := [], alts := [], laidByText := true, laidKinds := [.data, .data, .data], laidTests := true, laidLooks := .later }
def FnExactShowShortUptoCardSaid : Prop := Claim7.holds Tryd.pinned (.plain (OpenSpec.upto fnExactShowShortSpec)) fnExactShowShortUptoCard

/-- THE SECOND FORM's CARD OF 'laws.FnExactShowEnum'. -/
def fnExactShowEnumUptoCard : Claim7 := { stood := { row := fnExactShowEnumUptoRow, standIns := [], harness := (true, "c7d53198b543c5c099085549295f32700e5de96f225bd19d99b467d07ca35451"), looks := true }, kinds := [], alts := [], laidByText := true, laidKinds := [.data, .data, .data], laidTests := true, laidLooks := .later }
def FnExactShowEnumUptoCardSaid : Prop := Claim7.holds Tryd.pinned (.plain (OpenSpec.upto fnExactShowEnumSpec)) fnExactShowEnumUptoCard

/-- THE SECOND FORM's CARD OF 'laws.FnShowEnum'. -/
def fnShowEnumUptoCard : Claim7 := { stood := { row := fnShowEnumUptoRow, standIns := [], harness := (true, "c7d53198b543c5c099085549295f32700e5de96f225bd19d99b467d07ca35451"), looks := true }, kinds := [], alts := [], laidByText := true, laidKinds := [.data, .data, .data], laidTests := true, laidLooks := .later }
def FnShowEnumUptoCardSaid : Prop := Claim7.holds Tryd.pinned (.plain (OpenSpec.upto fnShowEnumSpec)) fnShowEnumUptoCard
end Rows
end Go.Proofs.YtboehlffbibgmaaDoor
