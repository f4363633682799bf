/-
  DERIVED. GIVEN WITH THE SEED: THE CARDS: each row of YtpfdghbjagdhfaaDoorRows.lean that lists a variable, with what it lists TIED to the program's text (the seventh form; the later family's looks); each row that meets fmt, with fmt's text TOLD by the authors' own Lean function (tested against real Go, not proved from fmt's source: count such statements apart). THE CARD IS WHAT COUNTS. Prove the row's statement (the work); the ties are given (YtpfdghbjagdhfaaDoorTie.lean); close each card by the builder's one call (the guide's Derived/Test/ToyasCard.lean, 'card_holds'). Laid BY PROGRAM, IN A SANDBOX (cutbox-door.mjs). By AI agents, Wed Nov 11 2026. No macro, syntax, notation, axiom, sorry.
-/
import Derived.Test.YtpfdghbjagdhfaaDoorRows
import GoSem.ClaimSeven
namespace Go.Proofs.YtpfdghbjagdhfaaDoor
namespace Rows

/-- THE TIED CARD OF 'laws.FnExactParseArm'. -/
def fnExactParseArmCard : Claim7 := { stood := { row := fnExactParseArmRow, standIns := [], harness := (true, "a626fc8f6bd0050cf581bd9b6ae895dd99845c9d883ee3de989721a3bc09311b"), looks := true }, kinds := [], alts := [], laidByText := true, laidKinds := [.data, .pinned], laidTests := true, laidLooks := .later }
def FnExactParseArmCardSaid : Prop := Claim7.holds Tryd.pinned (.plain (OpenSpec.ofChange fnExactParseArmSpec)) fnExactParseArmCard

/-- THE TIED CARD OF 'laws.FnExactParseEnum'. -/
def fnExactParseEnumCard : Claim7 := { stood := { row := fnExactParseEnumRow, standIns := [], harness := (true, "a626fc8f6bd0050cf581bd9b6ae895dd99845c9d883ee3de989721a3bc09311b"), looks := true }, kinds := [], alts := [], laidByText := true, laidKinds := [.data, .data, .data, .sentinel, .sentinel], laidTests := true, laidLooks := .later }
def FnExactParseEnumCardSaid : Prop := Claim7.holds Tryd.pinned (.plain (OpenSpec.ofChange fnExactParseEnumSpec)) fnExactParseEnumCard

/-- THE TIED CARD OF 'laws.FnExactParseFlag'. -/
def fnExactParseFlagCard : Claim7 := { stood := { row := fnExactParseFlagRow, standIns := [], harness := (true, "a626fc8f6bd0050cf581bd9b6ae895dd99845c9d883ee3de989721a3bc09311b"), looks := true }, kinds := [], alts := [], laidByText := true, laidKinds := [.data, .data, .data, .sentinel, .sentinel], laidTests := true, laidLooks := .later }
def FnExactParseFlagCardSaid : Prop := Claim7.holds Tryd.pinned (.plain (OpenSpec.ofChange fnExactParseFlagSpec)) fnExactParseFlagCard

/-- THE TIED CARD OF 'laws.FnEnumText'. -/
def fnEnumTextCard : Claim7 := { stood := { row := fnEnumTextRow, standIns := [], harness := (true, "a626fc8f6bd0050cf581bd9b6ae895dd99845c9d883ee3de989721a3bc09311b"), looks := true }, kinds := [], alts := [], laidByText := true, laidKinds := [.data, .data, .data, .sentinel, .sentinel], laidTests := true, laidLooks := .later }
def FnEnumTextCardSaid : Prop := Claim7.holds Tryd.pinned (.plain (OpenSpec.ofChange fnEnumTextSpec)) fnEnumTextCard

/-- THE TIED CARD OF 'laws.FnFlagText'. -/
def fnFlagTextCard : Claim7 := { stood := { row := fnFlagTextRow, standIns := [], harness := (true, "a626fc8f6bd0050cf581bd9b6ae895dd99845c9d883ee3de989721a3bc09311b"), looks := true }, kinds := [], alts := [], laidByText := true, laidKinds := [.data, .data, .data, .sentinel, .sentinel], laidTests := true, laidLooks := .later }
def FnFlagTextCardSaid : Prop := Claim7.holds Tryd.pinned (.plain (OpenSpec.ofChange fnFlagTextSpec)) fnFlagTextCard

/-- THE TIED CARD OF 'laws.FnArmText'. -/
def fnArmTextCard : Claim7 := { stood := { row := fnArmTextRow, standIns := [], harness := (true, "a626fc8f6bd0050cf581bd9b6ae895dd99845c9d883ee3de989721a3bc09311b"), looks := true }, kinds := [], alts := [], laidByText := true, laidKinds := [.data, .pinned], laidTests := true, laidLooks := .later }
def FnArmTextCardSaid : Prop := Claim7.holds Tryd.pinned (.plain (OpenSpec.ofChange fnArmTextSpec)) fnArmTextCard

/-- THE TIED CARD OF 'laws.FnParseArm'. -/
def fnParseArmCard : Claim7 := { stood := { row := fnParseArmRow, standIns := [], harness := (true, "a626fc8f6bd0050cf581bd9b6ae895dd99845c9d883ee3de989721a3bc09311b"), looks := true }, kinds := [], alts := [], laidByText := true, laidKinds := [.data, .pinned], laidTests := true, laidLooks := .later }
def FnParseArmCardSaid : Prop := Claim7.holds Tryd.pinned (.plain (OpenSpec.ofChange fnParseArmSpec)) fnParseArmCard

/-- THE TIED CARD OF 'laws.FnParseEnum'. -/
def fnParseEnumCard : Claim7 := { stood := { row := fnParseEnumRow, standIns := [], harness := (true, "a626fc8f6bd0050cf581bd9b6ae895dd99845c9d883ee3de989721a3bc09311b"), looks := true }, kinds := [], alts := [], laidByText := true, laidKinds := [.data, .data, .data, .sentinel, .sentinel], laidTests := true, laidLooks := .later }
def FnParseEnumCardSaid : Prop := Claim7.holds Tryd.pinned (.plain (OpenSpec.ofChange fnParseEnumSpec)) fnParseEnumCard

/-- THE TIED CARD OF 'laws.FnParseFlag'. -/
def fnParseFlagCard : Claim7 := { stood := { row := fnParseFlagRow, standIns := [], harness := (true, "a626fc8f6bd0050cf581bd9b6ae895dd99845c9d883ee3de989721a3bc09311b"), looks := true }, kinds := [], alts := [], laidByText := true, laidKinds := [.data, .data, .data, .sentinel, .sentinel], laidTests := true, laidLooks := .later }
def FnParseFlagCardSaid : Prop := Claim7.holds Tryd.pinned (.plain (OpenSpec.ofChange fnParseFlagSpec)) fnParseFlagCard

/-- THE SECOND FORM's CARD OF 'laws.FnExactParseArm'. -/
def fnExactParseArmUptoCard : Claim7 := { stood := { row := fnExactParseArmUptoRow, standIns := [], harness := (true, "a626fc8f6bd0050cf581bd9b6ae895dd99845c9d883ee3de989721a3bc09311b"), looks := true }, kinds := [], alts := [], laidByText := true, laidKinds := [.data, .pinned], laidTests := true, laidLooks := .later }
def FnExactParseArmUptoCardSaid : Prop := Claim7.holds Tryd.pinned (.plain (OpenSpec.upto fnExactParseArmSpec)) fnExactParseArmUptoCard

/-- THE SECOND FORM's CARD OF 'laws.FnExactParseEnum'. -/
def fnExactParseEnumUptoCard : Claim7 := { stood := { row := fnExactParseEnumUptoRow, standIns := [], harness := (true, "a626fc8f6bd0050cf581bd9b6ae895dd99845c9d883ee3de989721a3bc09311b"), looks := true }, kinds := [], alts := [], laidByText := true, laidKinds := [.data, .data, .data, .sentinel, .sentinel], laidTests := true, laidLooks := .later }
def FnExactParseEnumUptoCardSaid : Prop := Claim7.holds Tryd.pinned (.plain (OpenSpec.upto fnExactParseEnumSpec)) fnExactParseEnumUptoCard

/-- THE SECOND FORM's CARD OF 'laws.FnExactParseFlag'. -/
def fnExactParseFlagUptoCard : Claim7 := { stood := { row := fnExactParseFlagUptoRow, standIns := [], harness := (true, "a626fc8f6bd0050cf581bd9b6ae895dd99845c9d883ee3de989721a3bc09311b"), looks := true }, kinds := [], alts := [], laidByText := true, laidKinds := [.data, .data, .data, .sentinel, .sentinel], laidTests := true, laidLooks := .later }
def FnExactParseFlagUptoCardSaid : Prop := Claim7.holds Tryd.pinned (.plain (OpenSpec.upto fnExactParseFlagSpec)) fnExactParseFlagUptoCard

/-- THE SECOND FORM's CARD OF 'laws.FnEnumText'. -/
def fnEnumTextUptoCard : Claim7 := { stood := { row := fnEnumTextUptoRow, standIns := [], harness := (true, "a626fc8f6bd0050cf581bd9b6ae895dd99845c9d883ee3de989721a3bc09311b"), looks := true }, kinds := [], alts := [], laidByText := true, laidKinds := [.data, .data, .data, .sentinel, .sentinel], laidTests := true, laidLooks := .later }
def FnEnumTextUptoCardSaid : Prop := Claim7.holds Tryd.pinned (.plain (OpenSpec.upto fnEnumTextSpec)) fnEnumTextUptoCard

/-- THE SECOND FORM's CARD OF 'laws.FnFlagText'. -/
def fnFlagTextUptoCard : Claim7 := { stood := { row := fnFlagTextUptoRow, standIns := [], harness := (true, "a626fc8f6bd0050cf581bd9b6ae895dd99845c9d883ee3de989721a3bc09311b"), looks := true }, kinds := [], alts := [], laidByText := true, laidKinds := [.data, .data, .data, .sentinel, .sentinel], laidTests := true, laidLooks := .later }
def FnFlagTextUptoCardSaid : Prop := Claim7.holds Tryd.pinned (.plain (OpenSpec.upto fnFlagTextSpec)) fnFlagTextUptoCard

/-- THE SECOND FORM's CARD OF 'laws.FnArmText'. -/
def fnArmTextUptoCard : Claim7 := { stood := { row := fnArmTextUptoRow, standIns := [], harness := (true, "a626fc8f6bd0050cf581bd9b6ae895dd99845c9d883ee3de989721a3bc09311b"), looks := true }, kinds := [], alts := [], laidByText := true, laidKinds := [.data, .pinned], laidTests := true, laidLooks := .later }
def FnArmTextUptoCardSaid : Prop := Claim7.holds Tryd.pinned (.plain (OpenSpec.upto fnArmTextSpec)) fnArmTextUptoCard

/-- THE SECOND FORM's CARD OF 'laws.FnParseArm'. -/
def fnParseArmUptoCard : Claim7 := { stood := { row := fnParseArmUptoRow, standIns := [], harness := (true, "a626fc8f6bd0050cf581bd9b6ae895dd99845c9d883ee3de989721a3bc09311b"), looks := true }, kinds := [], alts := [], laidByText := true, laidKinds := [.data, .pinned], laidTests := true, laidLooks := .later }
def FnParseArmUptoCardSaid : Prop := Claim7.holds Tryd.pinned (.plain (OpenSpec.upto fnParseArmSpec)) fnParseArmUptoCard

/-- THE SECOND FORM's CARD OF 'laws.FnParseEnum'. -/
def fnParseEnumUptoCard : Claim7 := { stood := { row := fnParseEnumUptoRow, standIns := [], harness := (true, "a626fc8f6bd0050cf581bd9b6ae895dd99845c9d883ee3de989721a3bc09311b"), looks := true }, kinds := [], alts := [], laidByText := true, laidKinds := [.data, .data, .data, .sentinel, .sentinel], laidTests := true, laidLooks := .later }
def FnParseEnumUptoCardSaid : Prop := Claim7.holds Tryd.pinned (.plain (OpenSpec.upto fnParseEnumSpec)) fnParseEnumUptoCard

/-- THE SECOND FORM's CARD OF 'laws.FnParseFlag'. -/
def fnParseFlagUptoCard : Claim7 := { stood := { row := fnParseFlagUptoRow, standIns := [], harness := (true, "a626fc8f6bd0050cf581bd9b6ae895dd99845c9d883ee3de989721a3bc09311b"), looks := true }, kinds := [], alts := [], laidByText := true, laidKinds := [.data, .data, .data, .sentinel, .sentinel], laidTests := true, laidLooks := .later }
def FnParseFlagUptoCardSaid : Prop := Claim7.holds Tryd.pinned (.plain (OpenSpec.upto fnParseFlagSpec)) fnParseFlagUptoCard
end Rows
end Go.Proofs.YtpfdghbjagdhfaaDoor
