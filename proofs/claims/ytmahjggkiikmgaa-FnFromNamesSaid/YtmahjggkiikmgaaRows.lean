/-
  No cell of these rows narrows 'for every input' (looked for: loops, veiled, ifaces, maps, wideKeys, modest, calm, conditions, laid).
  DERIVED. THE GIVEN ROWS OF THIS SEAT. 12 by the template 'for every input the law returns true; each argument reads behind the call as it read before'; 0 by the template 'total and deterministic' (their statements: YtmahjggkiikmgaaTotals.lean).
  GIVEN WITH THE SEED: the statements are not yours to turn. If you find one false, say at which input.
  Laid BY PROGRAM, IN A SANDBOX (cutbox-rows.mjs): the forced cells as the released guide's own fill.sh prints them over the translation b26f741f64d00a5e… (all of the seat's roots in one cut). By AI agents, Wed Nov 11 2026. No macro, syntax, notation, axiom, sorry.
-/
import Derived.Test.YtmahjggkiikmgaaChecked
import GoSem.Claim
import GoSem.ClaimJoined
import GoSem.ClaimMapViews
import Derived.JoinedTies
import Derived.KernelRfl
namespace Go.Proofs.Ytmahjggkiikmgaa
/- THE CELL 'sum', in the pinned program and in every row, IS THE sha256 OF THE DUMP (.gsa) THAT YtmahjggkiikmgaaProg.lean LOADS. Nothing in Lean hashes anything: it is a label: what it is worth is what the hold of that sum in a sandbox is worth. -/
noncomputable def Try.pinned : Pinned := { name := "ytmahjggkiikmgaa", sum := "b26f741f64d00a5e20ccb4db8a01b7148df9bcad080c3abd29c27ea0fc31457a", checked := Try.checked }
namespace Rows
def none {H : Type} : Left H := { results := [], args := [] }

/-- 'laws.FnNamesIn': WHATEVER THE INPUT: true; the input reads as it did. -/
def fnNamesInSpec : ChangeSpec := { name := "fnNamesIn", fn := fun _ => fun
  | [d] => { results := [.lit (.bool true)], args := [d] }
  | _ => none }
def fnNamesInRow : OpenClaim := { program := "ytmahjggkiikmgaa", sum := "b26f741f64d00a5e20ccb4db8a01b7148df9bcad080c3abd29c27ea0fc31457a", func := "loop.example/namedflags/laws.FnNamesIn", spec := "fnNamesIn", unfollowed := true, recurses := true, apart := false }
def FnNamesInSaid : Prop := fnNamesInRow.holds Try.pinned (OpenSpec.ofChange fnNamesInSpec)

/-- ITS FALSE NEIGHBOUR: 'it returns false'. Refute it at one input. -/
def fnNamesInWrong : ChangeSpec := { name := "fnNamesIn", fn := fun _ => fun
  | [d] => { results := [.lit (.bool false)], args := [d] }
  | _ => none }
def FnNamesInWrongFalsely : Prop := fnNamesInRow.holds Try.pinned (OpenSpec.ofChange fnNamesInWrong)

/-- 'laws.FnNamesInOr': WHATEVER THE INPUT: true; the input reads as it did. -/
def fnNamesInOrSpec : ChangeSpec := { name := "fnNamesInOr", fn := fun _ => fun
  | [d] => { results := [.lit (.bool true)], args := [d] }
  | _ => none }
def fnNamesInOrRow : OpenClaim := { program := "ytmahjggkiikmgaa", sum := "b26f741f64d00a5e20ccb4db8a01b7148df9bcad080c3abd29c27ea0fc31457a", func := "loop.example/namedflags/laws.FnNamesInOr", spec := "fnNamesInOr", unfollowed := true, recurses := true, apart := false }
def FnNamesInOrSaid : Prop := fnNamesInOrRow.holds Try.pinned (OpenSpec.ofChange fnNamesInOrSpec)

/-- ITS FALSE NEIGHBOUR: 'it returns false'. Refute it at one input. -/
def fnNamesInOrWrong : ChangeSpec := { name := "fnNamesInOr", fn := fun _ => fun
  | [d] => { results := [.lit (.bool false)], args := [d] }
  | _ => none }
def FnNamesInOrWrongFalsely : Prop := fnNamesInOrRow.holds Try.pinned (OpenSpec.ofChange fnNamesInOrWrong)

/-- 'laws.FnRestIn': WHATEVER THE INPUT: true; the input reads as it did. -/
def fnRestInSpec : ChangeSpec := { name := "fnRestIn", fn := fun _ => fun
  | [d] => { results := [.lit (.bool true)], args := [d] }
  | _ => none }
def fnRestInRow : OpenClaim := { program := "ytmahjggkiikmgaa", sum := "b26f741f64d00a5e20ccb4db8a01b7148df9bcad080c3abd29c27ea0fc31457a", func := "loop.example/namedflags/laws.FnRestIn", spec := "fnRestIn", unfollowed := true, recurses := true, apart := false }
def FnRestInSaid : Prop := fnRestInRow.holds Try.pinned (OpenSpec.ofChange fnRestInSpec)

/-- ITS FALSE NEIGHBOUR: 'it returns false'. Refute it at one input. -/
def fnRestInWrong : ChangeSpec := { name := "fnRestIn", fn := fun _ => fun
  | [d] => { results := [.lit (.bool false)], args := [d] }
  | _ => none }
def FnRestInWrongFalsely : Prop := fnRestInRow.holds Try.pinned (OpenSpec.ofChange fnRestInWrong)

/-- 'laws.FnCountBits': WHATEVER THE INPUT: true; the input reads as it did. -/
def fnCountBitsSpec : ChangeSpec := { name := "fnCountBits", fn := fun _ => fun
  | [d] => { results := [.lit (.bool true)], args := [d] }
  | _ => none }
def fnCountBitsRow : OpenClaim := { program := "ytmahjggkiikmgaa", sum := "b26f741f64d00a5e20ccb4db8a01b7148df9bcad080c3abd29c27ea0fc31457a", func := "loop.example/namedflags/laws.FnCountBits", spec := "fnCountBits", unfollowed := true, recurses := true, apart := false }
def FnCountBitsSaid : Prop := fnCountBitsRow.holds Try.pinned (OpenSpec.ofChange fnCountBitsSpec)

/-- ITS FALSE NEIGHBOUR: 'it returns false'. Refute it at one input. -/
def fnCountBitsWrong : ChangeSpec := { name := "fnCountBits", fn := fun _ => fun
  | [d] => { results := [.lit (.bool false)], args := [d] }
  | _ => none }
def FnCountBitsWrongFalsely : Prop := fnCountBitsRow.holds Try.pinned (OpenSpec.ofChange fnCountBitsWrong)

/-- 'laws.FnCompareValues': WHATEVER THE INPUT: true; the input reads as it did. -/
def fnCompareValuesSpec : ChangeSpec := { name := "fnCompareValues", fn := fun _ => fun
  | [d] => { results := [.lit (.bool true)], args := [d] }
  | _ => none }
def fnCompareValuesRow : OpenClaim := { program := "ytmahjggkiikmgaa", sum := "b26f741f64d00a5e20ccb4db8a01b7148df9bcad080c3abd29c27ea0fc31457a", func := "loop.example/namedflags/laws.FnCompareValues", spec := "fnCompareValues", unfollowed := true, recurses := true, apart := false }
def FnCompareValuesSaid : Prop := fnCompareValuesRow.holds Try.pinned (OpenSpec.ofChange fnCompareValuesSpec)

/-- ITS FALSE NEIGHBOUR: 'it returns false'. Refute it at one input. -/
def fnCompareValuesWrong : ChangeSpec := { name := "fnCompareValues", fn := fun _ => fun
  | [d] => { results := [.lit (.bool false)], args := [d] }
  | _ => none }
def FnCompareValuesWrongFalsely : Prop := fnCompareValuesRow.holds Try.pinned (OpenSpec.ofChange fnCompareValuesWrong)

/-- 'laws.FnPartsOf': WHATEVER THE INPUT: true; the input reads as it did. -/
def fnPartsOfSpec : ChangeSpec := { name := "fnPartsOf", fn := fun _ => fun
  | [d] => { results := [.lit (.bool true)], args := [d] }
  | _ => none }
def fnPartsOfRow : OpenClaim := { program := "ytmahjggkiikmgaa", sum := "b26f741f64d00a5e20ccb4db8a01b7148df9bcad080c3abd29c27ea0fc31457a", func := "loop.example/namedflags/laws.FnPartsOf", spec := "fnPartsOf", unfollowed := true, recurses := true, apart := false }
def FnPartsOfSaid : Prop := fnPartsOfRow.holds Try.pinned (OpenSpec.ofChange fnPartsOfSpec)

/-- ITS FALSE NEIGHBOUR: 'it returns false'. Refute it at one input. -/
def fnPartsOfWrong : ChangeSpec := { name := "fnPartsOf", fn := fun _ => fun
  | [d] => { results := [.lit (.bool false)], args := [d] }
  | _ => none }
def FnPartsOfWrongFalsely : Prop := fnPartsOfRow.holds Try.pinned (OpenSpec.ofChange fnPartsOfWrong)

/-- 'laws.FnFromNames': WHATEVER THE INPUT: true; the input reads as it did. -/
def fnFromNamesSpec : ChangeSpec := { name := "fnFromNames", fn := fun _ => fun
  | [d] => { results := [.lit (.bool true)], args := [d] }
  | _ => none }
def fnFromNamesRow : OpenClaim := { program := "ytmahjggkiikmgaa", sum := "b26f741f64d00a5e20ccb4db8a01b7148df9bcad080c3abd29c27ea0fc31457a", func := "loop.example/namedflags/laws.FnFromNames", spec := "fnFromNames", unfollowed := true, recurses := true, apart := false }
def FnFromNamesSaid : Prop := fnFromNamesRow.holds Try.pinned (OpenSpec.ofChange fnFromNamesSpec)

/-- ITS FALSE NEIGHBOUR: 'it returns false'. Refute it at one input. -/
def fnFromNamesWrong : ChangeSpec := { name := "fnFromNames", fn := fun _ => fun
  | [d] => { results := [.lit (.bool false)], args := [d] }
  | _ => none }
def FnFromNamesWrongFalsely : Prop := fnFromNamesRow.holds Try.pinned (OpenSpec.ofChange fnFromNamesWrong)

/-- 'laws.FnMergeEnums': WHATEVER THE INPUT: true; the input reads as it did. -/
def fnMergeEnumsSpec : ChangeSpec := { name := "fnMergeEnums", fn := fun _ => fun
  | [d] => { results := [.lit (.bool true)], args := [d] }
  | _ => none }
def fnMergeEnumsRow : OpenClaim := { program := "ytmahjggkiikmgaa", sum := "b26f741f64d00a5e20ccb4db8a01b7148df9bcad080c3abd29c27ea0fc31457a", func := "loop.example/namedflags/laws.FnMergeEnums", spec := "fnMergeEnums", unfollowed := true, recurses := true, apart := false }
def FnMergeEnumsSaid : Prop := fnMergeEnumsRow.holds Try.pinned (OpenSpec.ofChange fnMergeEnumsSpec)

/-- ITS FALSE NEIGHBOUR: 'it returns false'. Refute it at one input. -/
def fnMergeEnumsWrong : ChangeSpec := { name := "fnMergeEnums", fn := fun _ => fun
  | [d] => { results := [.lit (.bool false)], args := [d] }
  | _ => none }
def FnMergeEnumsWrongFalsely : Prop := fnMergeEnumsRow.holds Try.pinned (OpenSpec.ofChange fnMergeEnumsWrong)

/-- 'laws.FnDiffEnums': WHATEVER THE INPUT: true; the input reads as it did. -/
def fnDiffEnumsSpec : ChangeSpec := { name := "fnDiffEnums", fn := fun _ => fun
  | [d] => { results := [.lit (.bool true)], args := [d] }
  | _ => none }
def fnDiffEnumsRow : OpenClaim := { program := "ytmahjggkiikmgaa", sum := "b26f741f64d00a5e20ccb4db8a01b7148df9bcad080c3abd29c27ea0fc31457a", func := "loop.example/namedflags/laws.FnDiffEnums", spec := "fnDiffEnums", unfollowed := true, recurses := true, apart := false }
def FnDiffEnumsSaid : Prop := fnDiffEnumsRow.holds Try.pinned (OpenSpec.ofChange fnDiffEnumsSpec)

/-- ITS FALSE NEIGHBOUR: 'it returns false'. Refute it at one input. -/
def fnDiffEnumsWrong : ChangeSpec := { name := "fnDiffEnums", fn := fun _ => fun
  | [d] => { results := [.lit (.bool false)], args := [d] }
  | _ => none }
def FnDiffEnumsWrongFalsely : Prop := fnDiffEnumsRow.holds Try.pinned (OpenSpec.ofChange fnDiffEnumsWrong)

/-- 'laws.FnApplyChanges': WHATEVER THE INPUT: true; the input reads as it did. -/
def fnApplyChangesSpec : ChangeSpec := { name := "fnApplyChanges", fn := fun _ => fun
  | [d] => { results := [.lit (.bool true)], args := [d] }
  | _ => none }
def fnApplyChangesRow : OpenClaim := { program := "ytmahjggkiikmgaa", sum := "b26f741f64d00a5e20ccb4db8a01b7148df9bcad080c3abd29c27ea0fc31457a", func := "loop.example/namedflags/laws.FnApplyChanges", spec := "fnApplyChanges", unfollowed := true, recurses := true, apart := false }
def FnApplyChangesSaid : Prop := fnApplyChangesRow.holds Try.pinned (OpenSpec.ofChange fnApplyChangesSpec)

/-- ITS FALSE NEIGHBOUR: 'it returns false'. Refute it at one input. -/
def fnApplyChangesWrong : ChangeSpec := { name := "fnApplyChanges", fn := fun _ => fun
  | [d] => { results := [.lit (.bool false)], args := [d] }
  | _ => none }
def FnApplyChangesWrongFalsely : Prop := fnApplyChangesRow.holds Try.pinned (OpenSpec.ofChange fnApplyChangesWrong)

/-- 'laws.FnApplyChangesOne': WHATEVER THE INPUT: true; the input reads as it did. -/
def fnApplyChangesOneSpec : ChangeSpec := { name := "fnApplyChangesOne", fn := fun _ => fun
  | [d] => { results := [.lit (.bool true)], args := [d] }
  | _ => none }
def fnApplyChangesOneRow : OpenClaim := { program := "ytmahjggkiikmgaa", sum := "b26f741f64d00a5e20ccb4db8a01b7148df9bcad080c3abd29c27ea0fc31457a", func := "loop.example/namedflags/laws.FnApplyChangesOne", spec := "fnApplyChangesOne", unfollowed := true, recurses := true, apart := false }
def FnApplyChangesOneSaid : Prop := fnApplyChangesOneRow.holds Try.pinned (OpenSpec.ofChange fnApplyChangesOneSpec)

/-- ITS FALSE NEIGHBOUR: 'it returns false'. Refute it at one input. -/
def fnApplyChangesOneWrong : ChangeSpec := { name := "fnApplyChangesOne", fn := fun _ => fun
  | [d] => { results := [.lit (.bool false)], args := [d] }
  | _ => none }
def FnApplyChangesOneWrongFalsely : Prop := fnApplyChangesOneRow.holds Try.pinned (OpenSpec.ofChange fnApplyChangesOneWrong)

/-- 'laws.FnTurnChanges': WHATEVER THE INPUT: true; the input reads as it did. -/
def fnTurnChangesSpec : ChangeSpec := { name := "fnTurnChanges", fn := fun _ => fun
  | [d] => { results := [.lit (.bool true)], args := [d] }
  | _ => none }
def fnTurnChangesRow : OpenClaim := { program := "ytmahjggkiikmgaa", sum := "b26f741f64d00a5e20ccb4db8a01b7148df9bcad080c3abd29c27ea0fc31457a", func := "loop.example/namedflags/laws.FnTurnChanges", spec := "fnTurnChanges", unfollowed := true, recurses := true, apart := false }
def FnTurnChangesSaid : Prop := fnTurnChangesRow.holds Try.pinned (OpenSpec.ofChange fnTurnChangesSpec)

/-- ITS FALSE NEIGHBOUR: 'it returns false'. Refute it at one input. -/
def fnTurnChangesWrong : ChangeSpec := { name := "fnTurnChanges", fn := fun _ => fun
  | [d] => { results := [.lit (.bool false)], args := [d] }
  | _ => none }
def FnTurnChangesWrongFalsely : Prop := fnTurnChangesRow.holds Try.pinned (OpenSpec.ofChange fnTurnChangesWrong)

/- THE SECOND FORM. 'bulk': how many values and letters a reading holds, each counted each time it is reached (what is shared counts as often as it is met; a slice's spare places count too). A statement '..UptoSaid' is the law's where the arguments, and the package variables that the reading takes, are together of bulk at most 1048576: NARROWER than '..Said'. Prove '..Said' where nothing that the law and all that it calls make is longer than what came in: it says more and counts as full. Else prove '..UptoSaid'. A law counts once. -/
mutual
def uptoBulk {H : Type} : DataW H → Nat
  | .lit (.string bytes) => bytes.length + 1
  | .lit _ => 1
  | .nil => 1
  | .ptr d => uptoBulk d + 1
  | .slice elems spare => uptoBulkAll elems + uptoBulkAll spare + 1
  | .agg parts => uptoBulkAll parts + 1
  | .iface _ d => uptoBulk d + 1
  | .map entries => uptoBulkEntries entries + 1
  | .held _ => 1
def uptoBulkAll {H : Type} : List (DataW H) → Nat
  | [] => 0
  | d :: r => uptoBulk d + uptoBulkAll r
def uptoBulkEntries {H : Type} : List (Lit × DataW H) → Nat
  | [] => 0
  | x :: r => uptoBulkEntry x + uptoBulkEntries r
def uptoBulkEntry {H : Type} : Lit × DataW H → Nat
  | (.string bytes, d) => bytes.length + uptoBulk d + 1
  | (_, d) => uptoBulk d + 1
 end
def uptoSmall : (H : Type) → List (DataW H) → Bool := fun _ ds => decide (uptoBulkAll ds ≤ 1048576)
def OpenSpec.upto (s : _root_.Go.ChangeSpec) : _root_.Go.OpenSpec := { _root_.Go.OpenSpec.ofChange s with cond := some uptoSmall }

/-- 'laws.FnNamesIn', WHERE WHAT IT READS IS OF BULK AT MOST 1048576: true; the input reads as it did. -/
def fnNamesInUptoRow : OpenClaim := { program := "ytmahjggkiikmgaa", sum := "b26f741f64d00a5e20ccb4db8a01b7148df9bcad080c3abd29c27ea0fc31457a", func := "loop.example/namedflags/laws.FnNamesIn", spec := "fnNamesIn", unfollowed := true, recurses := true, apart := false, narrowed := true }
def FnNamesInUptoSaid : Prop := fnNamesInUptoRow.holds Try.pinned (OpenSpec.upto fnNamesInSpec)

/-- 'laws.FnNamesInOr', WHERE WHAT IT READS IS OF BULK AT MOST 1048576: true; the input reads as it did. -/
def fnNamesInOrUptoRow : OpenClaim := { program := "ytmahjggkiikmgaa", sum := "b26f741f64d00a5e20ccb4db8a01b7148df9bcad080c3abd29c27ea0fc31457a", func := "loop.example/namedflags/laws.FnNamesInOr", spec := "fnNamesInOr", unfollowed := true, recurses := true, apart := false, narrowed := true }
def FnNamesInOrUptoSaid : Prop := fnNamesInOrUptoRow.holds Try.pinned (OpenSpec.upto fnNamesInOrSpec)

/-- 'laws.FnRestIn', WHERE WHAT IT READS IS OF BULK AT MOST 1048576: true; the input reads as it did. -/
def fnRestInUptoRow : OpenClaim := { program := "ytmahjggkiikmgaa", sum := "b26f741f64d00a5e20ccb4db8a01b7148df9bcad080c3abd29c27ea0fc31457a", func := "loop.example/namedflags/laws.FnRestIn", spec := "fnRestIn", unfollowed := true, recurses := true, apart := false, narrowed := true }
def FnRestInUptoSaid : Prop := fnRestInUptoRow.holds Try.pinned (OpenSpec.upto fnRestInSpec)

/-- 'laws.FnCountBits', WHERE WHAT IT READS IS OF BULK AT MOST 1048576: true; the input reads as it did. -/
def fnCountBitsUptoRow : OpenClaim := { program := "ytmahjggkiikmgaa", sum := "b26f741f64d00a5e20ccb4db8a01b7148df9bcad080c3abd29c27ea0fc31457a", func := "loop.example/namedflags/laws.FnCountBits", spec := "fnCountBits", unfollowed := true, recurses := true, apart := false, narrowed := true }
def FnCountBitsUptoSaid : Prop := fnCountBitsUptoRow.holds Try.pinned (OpenSpec.upto fnCountBitsSpec)

/-- 'laws.FnCompareValues', WHERE WHAT IT READS IS OF BULK AT MOST 1048576: true; the input reads as it did. -/
def fnCompareValuesUptoRow : OpenClaim := { program := "ytmahjggkiikmgaa", sum := "b26f741f64d00a5e20ccb4db8a01b7148df9bcad080c3abd29c27ea0fc31457a", func := "loop.example/namedflags/laws.FnCompareValues", spec := "fnCompareValues", unfollowed := true, recurses := true, apart := false, narrowed := true }
def FnCompareValuesUptoSaid : Prop := fnCompareValuesUptoRow.holds Try.pinned (OpenSpec.upto fnCompareValuesSpec)

/-- 'laws.FnPartsOf', WHERE WHAT IT READS IS OF BULK AT MOST 1048576: true; the input reads as it did. -/
def fnPartsOfUptoRow : OpenClaim := { program := "ytmahjggkiikmgaa", sum := "b26f741f64d00a5e20ccb4db8a01b7148df9bcad080c3abd29c27ea0fc31457a", func := "loop.example/namedflags/laws.FnPartsOf", spec := "fnPartsOf", unfollowed := true, recurses := true, apart := false, narrowed := true }
def FnPartsOfUptoSaid : Prop := fnPartsOfUptoRow.holds Try.pinned (OpenSpec.upto fnPartsOfSpec)

/-- 'laws.FnFromNames', WHERE WHAT IT READS IS OF BULK AT MOST 1048576: true; the input reads as it did. -/
def fnFromNamesUptoRow : OpenClaim := { program := "ytmahjggkiikmgaa", sum := "b26f741f64d00a5e20ccb4db8a01b7148df9bcad080c3abd29c27ea0fc31457a", func := "loop.example/namedflags/laws.FnFromNames", spec := "fnFromNames", unfollowed := true, recurses := true, apart := false, narrowed := true }
def FnFromNamesUptoSaid : Prop := fnFromNamesUptoRow.holds Try.pinned (OpenSpec.upto fnFromNamesSpec)

/-- 'laws.FnMergeEnums', WHERE WHAT IT READS IS OF BULK AT MOST 1048576: true; the input reads as it did. -/
def fnMergeEnumsUptoRow : OpenClaim := { program := "ytmahjggkiikmgaa", sum := "b26f741f64d00a5e20ccb4db8a01b7148df9bcad080c3abd29c27ea0fc31457a", func := "loop.example/namedflags/laws.FnMergeEnums", spec := "fnMergeEnums", unfollowed := true, recurses := true, apart := false, narrowed := true }
def FnMergeEnumsUptoSaid : Prop := fnMergeEnumsUptoRow.holds Try.pinned (OpenSpec.upto fnMergeEnumsSpec)

/-- 'laws.FnDiffEnums', WHERE WHAT IT READS IS OF BULK AT MOST 1048576: true; the input reads as it did. -/
def fnDiffEnumsUptoRow : OpenClaim := { program := "ytmahjggkiikmgaa", sum := "b26f741f64d00a5e20ccb4db8a01b7148df9bcad080c3abd29c27ea0fc31457a", func := "loop.example/namedflags/laws.FnDiffEnums", spec := "fnDiffEnums", unfollowed := true, recurses := true, apart := false, narrowed := true }
def FnDiffEnumsUptoSaid : Prop := fnDiffEnumsUptoRow.holds Try.pinned (OpenSpec.upto fnDiffEnumsSpec)

/-- 'laws.FnApplyChanges', WHERE WHAT IT READS IS OF BULK AT MOST 1048576: true; the input reads as it did. -/
def fnApplyChangesUptoRow : OpenClaim := { program := "ytmahjggkiikmgaa", sum := "b26f741f64d00a5e20ccb4db8a01b7148df9bcad080c3abd29c27ea0fc31457a", func := "loop.example/namedflags/laws.FnApplyChanges", spec := "fnApplyChanges", unfollowed := true, recurses := true, apart := false, narrowed := true }
def FnApplyChangesUptoSaid : Prop := fnApplyChangesUptoRow.holds Try.pinned (OpenSpec.upto fnApplyChangesSpec)

/-- 'laws.FnApplyChangesOne', WHERE WHAT IT READS IS OF BULK AT MOST 1048576: true; the input reads as it did. -/
def fnApplyChangesOneUptoRow : OpenClaim := { program := "ytmahjggkiikmgaa", sum := "b26f741f64d00a5e20ccb4db8a01b7148df9bcad080c3abd29c27ea0fc31457a", func := "loop.example/namedflags/laws.FnApplyChangesOne", spec := "fnApplyChangesOne", unfollowed := true, recurses := true, apart := false, narrowed := true }
def FnApplyChangesOneUptoSaid : Prop := fnApplyChangesOneUptoRow.holds Try.pinned (OpenSpec.upto fnApplyChangesOneSpec)

/-- 'laws.FnTurnChanges', WHERE WHAT IT READS IS OF BULK AT MOST 1048576: true; the input reads as it did. -/
def fnTurnChangesUptoRow : OpenClaim := { program := "ytmahjggkiikmgaa", sum := "b26f741f64d00a5e20ccb4db8a01b7148df9bcad080c3abd29c27ea0fc31457a", func := "loop.example/namedflags/laws.FnTurnChanges", spec := "fnTurnChanges", unfollowed := true, recurses := true, apart := false, narrowed := true }
def FnTurnChangesUptoSaid : Prop := fnTurnChangesUptoRow.holds Try.pinned (OpenSpec.upto fnTurnChangesSpec)

end Rows
end Go.Proofs.Ytmahjggkiikmgaa
