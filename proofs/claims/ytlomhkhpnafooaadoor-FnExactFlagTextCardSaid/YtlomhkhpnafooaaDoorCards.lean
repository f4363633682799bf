/-
  DERIVED. GIVEN WITH THE SEED: THE CARDS: each row of YtlomhkhpnafooaaDoorRows.lean that lists a variable, with what it lists TIED to the program's text (the seventh form; the later family's looks); each row that meets fmt, with fmt's text TOLD by the authors' own Lean function (tested against real Go, not proved from fmt's source: count such statements apart). THE CARD IS WHAT COUNTS. Prove the row's statement (the work); the ties are given (YtlomhkhpnafooaaDoorTie.lean); close each card by the builder's one call (the guide's Derived/Test/ToyasCard.lean, 'card_holds'). Laid BY PROGRAM, IN A SANDBOX (cutbox-door.mjs). By AI agents, Wed Nov 11 2026. No macro, syntax, notation, axiom, sorry.
-/
import Derived.Test.YtlomhkhpnafooaaDoorRows
import GoSem.ClaimSeven
namespace Go.Proofs.YtlomhkhpnafooaaDoor
namespace Rows

/-- THE TIED CARD OF 'laws.FnExactEnumText'. -/
def fnExactEnumTextCard : Claim7 := { stood := { row := fnExactEnumTextRow, standIns := [], harness := (true, "586a77957316f9f0b62e19a8d57af23004acf4e92a44679868b59f82bae7048a"), looks := true }, kinds := [], alts := [], laidByText := true, laidKinds := [.data, .data, .data], laidTests := true, laidLooks := .later }
def FnExactEnumTextCardSaid : Prop := Claim7.holds Tryd.pinned (.plain (OpenSpec.ofChange fnExactEnumTextSpec)) fnExactEnumTextCard

/-- THE TIED CARD OF 'laws.FnExactFlagText'. -/
def fnExactFlagTextCard : Claim7 := { stood := { row := fnExactFlagTextRow, standIns := [], harness := (true, "586a77957316f9f0b62e19a8d57af23004acf4e92a44679868b59f82bae7048a"), looks := true }, kinds := [], alts := [], laidByText := true, laidKinds := [.data, .data, .data], laidTests := true, laidLooks := .later }
def FnExactFlagTextCardSaid : Prop := Claim7.holds Tryd.pinned (.plain (OpenSpec.ofChange fnExactFlagTextSpec)) fnExactFlagTextCard

/-- THE TIED CARD OF 'laws.FnExactParseArm'. -/
def fnExactParseArmCard : Claim7 := { stood := { row := fnExactParseArmRow, standIns := [], harness := (true, "586a77957316f9f0b62e19a8d57af23004acf4e92a44679868b59f82bae7048a"), looks := true }, kinds := [], alts := [], laidByText := true, laidKinds := [.data, .pinned], laidTests := true, laidLooks := .later }
def FnExactParseArmCardSaid : Prop := Claim7.holds Tryd.pinned (.plain (OpenSpec.ofChange fnExactParseArmSpec)) fnExactParseArmCard

/-- THE TIED CARD OF 'laws.FnExactParseEnum'. -/
def fnExactParseEnumCard : Claim7 := { stood := { row := fnExactParseEnumRow, standIns := [], harness := (true, "586a77957316f9f0b62e19a8d57af23004acf4e92a44679868b59f82bae7048a"), looks := true }, kinds := [], alts := [], laidByText := true, laidKinds := [.data, .data, .data, .sentinel, .sentinel], laidTests := true, laidLooks := .later }
def FnExactParseEnumCardSaid : Prop := Claim7.holds Tryd.pinned (.plain (OpenSpec.ofChange fnExactParseEnumSpec)) fnExactParseEnumCard

/-- THE TIED CARD OF 'laws.FnExactParseFlag'. -/
def fnExactParseFlagCard : Claim7 := { stood := { row := fnExactParseFlagRow, standIns := [], harness := (true, "586a77957316f9f0b62e19a8d57af23004acf4e92a44679868b59f82bae7048a"), looks := true }, kinds := [], alts := [], laidByText := true, laidKinds := [.data, .data, .data, .sentinel, .sentinel], laidTests := true, laidLooks := .later }
def FnExactParseFlagCardSaid : Prop := Claim7.holds Tryd.pinned (.plain (OpenSpec.ofChange fnExactParseFlagSpec)) fnExactParseFlagCard

/-- THE TIED CARD OF 'laws.FnEnumText'. -/
def fnEnumTextCard : Claim7 := { stood := { row := fnEnumTextRow, standIns := [], harness := (true, "586a77957316f9f0b62e19a8d57af23004acf4e92a44679868b59f82bae7048a"), looks := true }, kinds := [], alts := [], laidByText := true, laidKinds := [.data, .data, .data, .sentinel, .sentinel], laidTests := true, laidLooks := .later }
def FnEnumTextCardSaid : Prop := Claim7.holds Tryd.pinned (.plain (OpenSpec.ofChange fnEnumTextSpec)) fnEnumTextCard

/-- THE TIED CARD OF 'laws.FnFlagText'. -/
def fnFlagTextCard : Claim7 := { stood := { row := fnFlagTextRow, standIns := [], harness := (true, "586a77957316f9f0b62e19a8d57af23004acf4e92a44679868b59f82bae7048a"), looks := true }, kinds := [], alts := [], laidByText := true, laidKinds := [.data, .data, .data, .sentinel, .sentinel], laidTests := true, laidLooks := .later }
def FnFlagTextCardSaid : Prop := Claim7.holds Tryd.pinned (.plain (OpenSpec.ofChange fnFlagTextSpec)) fnFlagTextCard

/-- THE TIED CARD OF 'laws.FnArmText'. -/
def fnArmTextCard : Claim7 := { stood := { row := fnArmTextRow, standIns := [], harness := (true, "586a77957316f9f0b62e19a8d57af23004acf4e92a44679868b59f82bae7048a"), looks := true }, kinds := [], alts := [], laidByText := true, laidKinds := [.data, .pinned], laidTests := true, laidLooks := .later }
def FnArmTextCardSaid : Prop := Claim7.holds Tryd.pinned (.plain (OpenSpec.ofChange fnArmTextSpec)) fnArmTextCard

/-- THE TIED CARD OF 'laws.FnParseArm'. -/
def fnParseArmCard : Claim7 := { stood := { row := fnParseArmRow, standIns := [], harness := (true, "586a77957316f9f0b62e19a8d57af23004acf4e92a44679868b59f82bae7048a"), looks := true }, kinds := [], alts := [], laidByText := true, laidKinds := [.data, .pinned], laidTests := true, laidLooks := .later }
def FnParseArmCardSaid : Prop := Claim7.holds Tryd.pinned (.plain (OpenSpec.ofChange fnParseArmSpec)) fnParseArmCard

/-- THE TIED CARD OF 'laws.FnParseEnum'. -/
def fnParseEnumCard : Claim7 := { stood := { row := fnParseEnumRow, standIns := [], harness := (true, "586a77957316f9f0b62e19a8d57af23004acf4e92a44679868b59f82bae7048a"), looks := true }, kinds := [], alts := [], laidByText := true, laidKinds := [.data, .data, .data, .sentinel, .sentinel], laidTests := true, laidLooks := .later }
def FnParseEnumCardSaid : Prop := Claim7.holds Tryd.pinned (.plain (OpenSpec.ofChange fnParseEnumSpec)) fnParseEnumCard

/-- THE TIED CARD OF 'laws.FnParseFlag'. -/
def fnParseFlagCard : Claim7 := { stood := { row := fnParseFlagRow, standIns := [], harness := (true, "586a77957316f9f0b62e19a8d57af23004acf4e92a44679868b59f82bae7048a"), looks := true }, kinds := [], alts := [], laidByText := true, laidKinds := [.data, .data, .data, .sentinel, .sentinel], laidTests := true, laidLooks := .later }
def FnParseFlagCardSaid : Prop := Claim7.holds Tryd.pinned (.plain (OpenSpec.ofChange fnParseFlagSpec)) fnParseFlagCard

/-- THE SECOND FORM's CARD OF 'laws.FnExactEnumText'. -/
def fnExactEnumTextUptoCard : Claim7 := { stood := { row := fnExactEnumTextUptoRow, standIns := [], harness := (true, "586a77957316f9f0b62e19a8d57af23004acf4e92a44679868b59f82bae7048a"), looks := true }, kinds := [], alts := [], laidByText := true, laidKinds := [.data, .data, .data], laidTests := true, laidLooks := .later }
def FnExactEnumTextUptoCardSaid : Prop := Claim7.holds Tryd.pinned (.plain (OpenSpec.upto fnExactEnumTextSpec)) fnExactEnumTextUptoCard

/-- THE SECOND FORM's CARD OF 'laws.FnExactFlagText'. -/
def fnExactFlagTextUptoCard : Claim7 := { stood := { row := fnExactFlagTextUptoRow, standIns := [], harness := (true, "586a77957316f9f0b62e19a8d57af23004acf4e92a44679868b59f82bae7048a"), looks := true }, kinds := [], alts := [], laidByText := true, laidKinds := [.data, .data, .data], laidTests := true, laidLooks := .later }
def FnExactFlagTextUptoCardSaid : Prop := Claim7.holds Tryd.pinned (.plain (OpenSpec.upto fnExactFlagTextSpec)) fnExactFlagTextUptoCard

/-- THE SECOND FORM's CARD OF 'laws.FnExactParseArm'. -/
def fnExactParseArmUptoCard : Claim7 := { stood := { row := fnExactParseArmUptoRow, standIns := [], harness := (true, "586a77957316f9f0b62e19a8d57af23004acf4e92a44679868b59f82bae7048a"), looks := true }, kinds := [], alts := [], laidByText := true, laidKinds := [.data, .pinned], laidTests := true, laidLooks := .later }
def FnExactParseArmUptoCardSaid : Prop := Claim7.holds Tryd.pinned (.plain (OpenSpec.upto fnExactParseArmSpec)) fnExactParseArmUptoCard

/-- THE SECOND FORM's CARD OF 'laws.FnExactParseEnum'. -/
def fnExactParseEnumUptoCard : Claim7 := { stood := { row := fnExactParseEnumUptoRow, standIns := [], harness := (true, "586a77957316f9f0b62e19a8d57af23004acf4e92a44679868b59f82bae7048a"), looks := true }, kinds := [], alts := [], laidByText := true, laidKinds := [.data, .data, .data, .sentinel, .sentinel], laidTests := true, laidLooks := .later }
def FnExactParseEnumUptoCardSaid : Prop := Claim7.holds Tryd.pinned (.plain (OpenSpec.upto fnExactParseEnumSpec)) fnExactParseEnumUptoCard

/-- THE SECOND FORM's CARD OF 'laws.FnExactParseFlag'. -/
def fnExactParseFlagUptoCard : Claim7 := { stood := { row := fnExactParseFlagUptoRow, standIns := [], harness := (true, "586a77957316f9f0b62e19a8d57af23004acf4e92a44679868b59f82bae7048a"), looks := true }, kinds := [], alts := [], laidByText := true, laidKinds := [.data, .data, .data, .sentinel, .sentinel], laidTests := true, laidLooks := .later }
def FnExactParseFlagUptoCardSaid : Prop := Claim7.holds Tryd.pinned (.plain (OpenSpec.upto fnExactParseFlagSpec)) fnExactParseFlagUptoCard

/-- THE SECOND FORM's CARD OF 'laws.FnEnumText'. -/
def fnEnumTextUptoCard : Claim7 := { stood := { row := fnEnumTextUptoRow, standIns := [], harness := (true, "586a77957316f9f0b62e19a8d57af23004acf4e92a44679868b59f82bae7048a"), looks := true }, kinds := [], alts := [], laidByText := true, laidKinds := [.data, .data, .data, .sentinel, .sentinel], laidTests := true, laidLooks := .later }
def FnEnumTextUptoCardSaid : Prop := Claim7.holds Tryd.pinned (.plain (OpenSpec.upto fnEnumTextSpec)) fnEnumTextUptoCard

/-- THE SECOND FORM's CARD OF 'laws.FnFlagText'. -/
def fnFlagTextUptoCard : Claim7 := { stood := { row := fnFlagTextUptoRow, standIns := [], harness := (true, "586a77957316f9f0b62e19a8d57af23004acf4e92a44679868b59f82bae7048a"), looks := true }, kinds := [], alts := [], laidByText := true, laidKinds := [.data, .data, .data, .sentinel, .sentinel], laidTests := true, laidLooks := .later }
def FnFlagTextUptoCardSaid : Prop := Claim7.holds Tryd.pinned (.plain (OpenSpec.upto fnFlagTextSpec)) fnFlagTextUptoCard

/-- THE SECOND FORM's CARD OF 'laws.FnArmText'. -/
def fnArmTextUptoCard : Claim7 := { stood := { row := fnArmTextUptoRow, standIns := [], harness := (true, "586a77957316f9f0b62e19a8d57af23004acf4e92a44679868b59f82bae7048a"), looks := true }, kinds := [], alts := [], laidByText := true, laidKinds := [.data, .pinned], laidTests := true, laidLooks := .later }
def FnArmTextUptoCardSaid : Prop := Claim7.holds Tryd.pinned (.plain (OpenSpec.upto fnArmTextSpec)) fnArmTextUptoCard

/-- THE SECOND FORM's CARD OF 'laws.FnParseArm'. -/
def fnParseArmUptoCard : Claim7 := { stood := { row := fnParseArmUptoRow, standIns := [], harness := (true, "586a77957316f9f0b62e19a8d57af23004acf4e92a44679868b59f82bae7048a"), looks := true }, kinds := [], alts := [], laidByText := true, laidKinds := [.data, .pinned], laidTests := true, laidLooks := .later }
def FnParseArmUptoCardSaid : Prop := Claim7.holds Tryd.pinned (.plain (OpenSpec.upto fnParseArmSpec)) fnParseArmUptoCard

/-- THE SECOND FORM's CARD OF 'laws.FnParseEnum'. -/
def fnParseEnumUptoCard : Claim7 := { stood := { row := fnParseEnumUptoRow, standIns := [], harness := (true, "586a77957316f9f0b62e19a8d57af23004acf4e92a44679868b59f82bae7048a"), looks := true }, kinds := [], alts := [], laidByText := true, laidKinds := [.data, .data, .data, .sentinel, .sentinel], laidTests := true, laidLooks := .later }
def FnParseEnumUptoCardSaid : Prop := Claim7.holds Tryd.pinned (.plain (OpenSpec.upto fnParseEnumSpec)) fnParseEnumUptoCard

/-- THE SECOND FORM's CARD OF 'laws.FnParseFlag'. -/
def fnParseFlagUptoCard : Claim7 := { stood := { row := fnParseFlagUptoRow, standIns := [], harness := (true, "586a77957316f9f0b62e19a8d57af23004acf4e92a44679868b59f82bae7048a"), looks := true }, kinds := [], alts := [], laidByText := true, laidKinds := [.data, .data, .data, .sentinel, .sentinel], laidTests := true, laidLooks := .later }
def FnParseFlagUptoCardSaid : Prop := Claim7.holds Tryd.pinned (.plain (OpenSpec.upto fnParseFlagSpec)) fnParseFlagUptoCard
end Rows
end Go.Proofs.YtlomhkhpnafooaaDoor
