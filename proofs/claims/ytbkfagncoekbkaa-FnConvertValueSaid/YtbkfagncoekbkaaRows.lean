/-
  No cell of these rows narrows 'for every input' (looked for: loops, veiled, ifaces, maps, wideKeys, modest, calm, conditions, laid).
  DERIVED. THE GIVEN ROWS OF THIS SEAT. 12 by the template 'for every input the law returns true; each argument reads behind the call as it read before'; 0 by the template 'total and deterministic' (their statements: YtbkfagncoekbkaaTotals.lean).
  GIVEN WITH THE SEED: the statements are not yours to turn. If you find one false, say at which input.
  Laid BY PROGRAM, IN A SANDBOX (cutbox-rows.mjs): the forced cells as the released guide's own fill.sh prints them over the translation 2449453cc1fd4ada… (all of the seat's roots in one cut). By AI agents, Wed Nov 11 2026. No macro, syntax, notation, axiom, sorry.
-/
import Derived.Test.YtbkfagncoekbkaaChecked
import GoSem.Claim
import GoSem.ClaimJoined
import GoSem.ClaimMapViews
import Derived.JoinedTies
import Derived.KernelRfl
namespace Go.Proofs.Ytbkfagncoekbkaa
/- THE CELL 'sum', in the pinned program and in every row, IS THE sha256 OF THE DUMP (.gsa) THAT YtbkfagncoekbkaaProg.lean LOADS. Nothing in Lean hashes anything: it is a label: what it is worth is what the hold of that sum in a sandbox is worth. -/
noncomputable def Try.pinned : Pinned := { name := "ytbkfagncoekbkaa", sum := "2449453cc1fd4ada058d6c6e4345742c3e48135689092b9071304ce743bb30f9", checked := Try.checked }
namespace Rows
def none {H : Type} : Left H := { results := [], args := [] }

/-- 'laws.FnValidFlag': WHATEVER THE INPUT: true; the input reads as it did. -/
def fnValidFlagSpec : ChangeSpec := { name := "fnValidFlag", fn := fun _ => fun
  | [d] => { results := [.lit (.bool true)], args := [d] }
  | _ => none }
def fnValidFlagRow : OpenClaim := { program := "ytbkfagncoekbkaa", sum := "2449453cc1fd4ada058d6c6e4345742c3e48135689092b9071304ce743bb30f9", func := "loop.example/namedflags/laws.FnValidFlag", spec := "fnValidFlag", apart := false }
def FnValidFlagSaid : Prop := fnValidFlagRow.holds Try.pinned (OpenSpec.ofChange fnValidFlagSpec)

/-- ITS FALSE NEIGHBOUR: 'it returns false'. Refute it at one input. -/
def fnValidFlagWrong : ChangeSpec := { name := "fnValidFlag", fn := fun _ => fun
  | [d] => { results := [.lit (.bool false)], args := [d] }
  | _ => none }
def FnValidFlagWrongFalsely : Prop := fnValidFlagRow.holds Try.pinned (OpenSpec.ofChange fnValidFlagWrong)

/-- 'laws.FnBuildFlag': WHATEVER THE INPUT: true; the input reads as it did. -/
def fnBuildFlagSpec : ChangeSpec := { name := "fnBuildFlag", fn := fun _ => fun
  | [d] => { results := [.lit (.bool true)], args := [d] }
  | _ => none }
def fnBuildFlagRow : OpenClaim := { program := "ytbkfagncoekbkaa", sum := "2449453cc1fd4ada058d6c6e4345742c3e48135689092b9071304ce743bb30f9", func := "loop.example/namedflags/laws.FnBuildFlag", spec := "fnBuildFlag", unfollowed := true, recurses := true, apart := false }
def FnBuildFlagSaid : Prop := fnBuildFlagRow.holds Try.pinned (OpenSpec.ofChange fnBuildFlagSpec)

/-- ITS FALSE NEIGHBOUR: 'it returns false'. Refute it at one input. -/
def fnBuildFlagWrong : ChangeSpec := { name := "fnBuildFlag", fn := fun _ => fun
  | [d] => { results := [.lit (.bool false)], args := [d] }
  | _ => none }
def FnBuildFlagWrongFalsely : Prop := fnBuildFlagRow.holds Try.pinned (OpenSpec.ofChange fnBuildFlagWrong)

/-- 'laws.FnSinglesOf': WHATEVER THE INPUT: true; the input reads as it did. -/
def fnSinglesOfSpec : ChangeSpec := { name := "fnSinglesOf", fn := fun _ => fun
  | [d] => { results := [.lit (.bool true)], args := [d] }
  | _ => none }
def fnSinglesOfRow : OpenClaim := { program := "ytbkfagncoekbkaa", sum := "2449453cc1fd4ada058d6c6e4345742c3e48135689092b9071304ce743bb30f9", func := "loop.example/namedflags/laws.FnSinglesOf", spec := "fnSinglesOf", unfollowed := true, recurses := true, apart := false }
def FnSinglesOfSaid : Prop := fnSinglesOfRow.holds Try.pinned (OpenSpec.ofChange fnSinglesOfSpec)

/-- ITS FALSE NEIGHBOUR: 'it returns false'. Refute it at one input. -/
def fnSinglesOfWrong : ChangeSpec := { name := "fnSinglesOf", fn := fun _ => fun
  | [d] => { results := [.lit (.bool false)], args := [d] }
  | _ => none }
def FnSinglesOfWrongFalsely : Prop := fnSinglesOfRow.holds Try.pinned (OpenSpec.ofChange fnSinglesOfWrong)

/-- 'laws.FnComposedOf': WHATEVER THE INPUT: true; the input reads as it did. -/
def fnComposedOfSpec : ChangeSpec := { name := "fnComposedOf", fn := fun _ => fun
  | [d] => { results := [.lit (.bool true)], args := [d] }
  | _ => none }
def fnComposedOfRow : OpenClaim := { program := "ytbkfagncoekbkaa", sum := "2449453cc1fd4ada058d6c6e4345742c3e48135689092b9071304ce743bb30f9", func := "loop.example/namedflags/laws.FnComposedOf", spec := "fnComposedOf", unfollowed := true, recurses := true, apart := false }
def FnComposedOfSaid : Prop := fnComposedOfRow.holds Try.pinned (OpenSpec.ofChange fnComposedOfSpec)

/-- ITS FALSE NEIGHBOUR: 'it returns false'. Refute it at one input. -/
def fnComposedOfWrong : ChangeSpec := { name := "fnComposedOf", fn := fun _ => fun
  | [d] => { results := [.lit (.bool false)], args := [d] }
  | _ => none }
def FnComposedOfWrongFalsely : Prop := fnComposedOfRow.holds Try.pinned (OpenSpec.ofChange fnComposedOfWrong)

/-- 'laws.FnMakeValueBounds': WHATEVER THE INPUT: true; the input reads as it did. -/
def fnMakeValueBoundsSpec : ChangeSpec := { name := "fnMakeValueBounds", fn := fun _ => fun
  | [d] => { results := [.lit (.bool true)], args := [d] }
  | _ => none }
def fnMakeValueBoundsRow : OpenClaim := { program := "ytbkfagncoekbkaa", sum := "2449453cc1fd4ada058d6c6e4345742c3e48135689092b9071304ce743bb30f9", func := "loop.example/namedflags/laws.FnMakeValueBounds", spec := "fnMakeValueBounds", unfollowed := true, recurses := true, apart := false }
def FnMakeValueBoundsSaid : Prop := fnMakeValueBoundsRow.holds Try.pinned (OpenSpec.ofChange fnMakeValueBoundsSpec)

/-- ITS FALSE NEIGHBOUR: 'it returns false'. Refute it at one input. -/
def fnMakeValueBoundsWrong : ChangeSpec := { name := "fnMakeValueBounds", fn := fun _ => fun
  | [d] => { results := [.lit (.bool false)], args := [d] }
  | _ => none }
def FnMakeValueBoundsWrongFalsely : Prop := fnMakeValueBoundsRow.holds Try.pinned (OpenSpec.ofChange fnMakeValueBoundsWrong)

/-- 'laws.FnIsValue': WHATEVER THE INPUT: true; the input reads as it did. -/
def fnIsValueSpec : ChangeSpec := { name := "fnIsValue", fn := fun _ => fun
  | [d] => { results := [.lit (.bool true)], args := [d] }
  | _ => none }
def fnIsValueRow : OpenClaim := { program := "ytbkfagncoekbkaa", sum := "2449453cc1fd4ada058d6c6e4345742c3e48135689092b9071304ce743bb30f9", func := "loop.example/namedflags/laws.FnIsValue", spec := "fnIsValue", unfollowed := true, recurses := true, apart := false }
def FnIsValueSaid : Prop := fnIsValueRow.holds Try.pinned (OpenSpec.ofChange fnIsValueSpec)

/-- ITS FALSE NEIGHBOUR: 'it returns false'. Refute it at one input. -/
def fnIsValueWrong : ChangeSpec := { name := "fnIsValue", fn := fun _ => fun
  | [d] => { results := [.lit (.bool false)], args := [d] }
  | _ => none }
def FnIsValueWrongFalsely : Prop := fnIsValueRow.holds Try.pinned (OpenSpec.ofChange fnIsValueWrong)

/-- 'laws.FnMissedMembers': WHATEVER THE INPUT: true; the input reads as it did. -/
def fnMissedMembersSpec : ChangeSpec := { name := "fnMissedMembers", fn := fun _ => fun
  | [d] => { results := [.lit (.bool true)], args := [d] }
  | _ => none }
def fnMissedMembersRow : OpenClaim := { program := "ytbkfagncoekbkaa", sum := "2449453cc1fd4ada058d6c6e4345742c3e48135689092b9071304ce743bb30f9", func := "loop.example/namedflags/laws.FnMissedMembers", spec := "fnMissedMembers", apart := false }
def FnMissedMembersSaid : Prop := fnMissedMembersRow.holds Try.pinned (OpenSpec.ofChange fnMissedMembersSpec)

/-- ITS FALSE NEIGHBOUR: 'it returns false'. Refute it at one input. -/
def fnMissedMembersWrong : ChangeSpec := { name := "fnMissedMembers", fn := fun _ => fun
  | [d] => { results := [.lit (.bool false)], args := [d] }
  | _ => none }
def FnMissedMembersWrongFalsely : Prop := fnMissedMembersRow.holds Try.pinned (OpenSpec.ofChange fnMissedMembersWrong)

/-- 'laws.FnMergeEnums': WHATEVER THE INPUT: true; the input reads as it did. -/
def fnMergeEnumsSpec : ChangeSpec := { name := "fnMergeEnums", fn := fun _ => fun
  | [d] => { results := [.lit (.bool true)], args := [d] }
  | _ => none }
def fnMergeEnumsRow : OpenClaim := { program := "ytbkfagncoekbkaa", sum := "2449453cc1fd4ada058d6c6e4345742c3e48135689092b9071304ce743bb30f9", func := "loop.example/namedflags/laws.FnMergeEnums", spec := "fnMergeEnums", unfollowed := true, recurses := true, apart := false }
def FnMergeEnumsSaid : Prop := fnMergeEnumsRow.holds Try.pinned (OpenSpec.ofChange fnMergeEnumsSpec)

/-- ITS FALSE NEIGHBOUR: 'it returns false'. Refute it at one input. -/
def fnMergeEnumsWrong : ChangeSpec := { name := "fnMergeEnums", fn := fun _ => fun
  | [d] => { results := [.lit (.bool false)], args := [d] }
  | _ => none }
def FnMergeEnumsWrongFalsely : Prop := fnMergeEnumsRow.holds Try.pinned (OpenSpec.ofChange fnMergeEnumsWrong)

/-- 'laws.FnDiffEnums': WHATEVER THE INPUT: true; the input reads as it did. -/
def fnDiffEnumsSpec : ChangeSpec := { name := "fnDiffEnums", fn := fun _ => fun
  | [d] => { results := [.lit (.bool true)], args := [d] }
  | _ => none }
def fnDiffEnumsRow : OpenClaim := { program := "ytbkfagncoekbkaa", sum := "2449453cc1fd4ada058d6c6e4345742c3e48135689092b9071304ce743bb30f9", func := "loop.example/namedflags/laws.FnDiffEnums", spec := "fnDiffEnums", unfollowed := true, recurses := true, apart := false }
def FnDiffEnumsSaid : Prop := fnDiffEnumsRow.holds Try.pinned (OpenSpec.ofChange fnDiffEnumsSpec)

/-- ITS FALSE NEIGHBOUR: 'it returns false'. Refute it at one input. -/
def fnDiffEnumsWrong : ChangeSpec := { name := "fnDiffEnums", fn := fun _ => fun
  | [d] => { results := [.lit (.bool false)], args := [d] }
  | _ => none }
def FnDiffEnumsWrongFalsely : Prop := fnDiffEnumsRow.holds Try.pinned (OpenSpec.ofChange fnDiffEnumsWrong)

/-- 'laws.FnSameMeaning': WHATEVER THE INPUT: true; the input reads as it did. -/
def fnSameMeaningSpec : ChangeSpec := { name := "fnSameMeaning", fn := fun _ => fun
  | [d] => { results := [.lit (.bool true)], args := [d] }
  | _ => none }
def fnSameMeaningRow : OpenClaim := { program := "ytbkfagncoekbkaa", sum := "2449453cc1fd4ada058d6c6e4345742c3e48135689092b9071304ce743bb30f9", func := "loop.example/namedflags/laws.FnSameMeaning", spec := "fnSameMeaning", unfollowed := true, recurses := true, apart := false }
def FnSameMeaningSaid : Prop := fnSameMeaningRow.holds Try.pinned (OpenSpec.ofChange fnSameMeaningSpec)

/-- ITS FALSE NEIGHBOUR: 'it returns false'. Refute it at one input. -/
def fnSameMeaningWrong : ChangeSpec := { name := "fnSameMeaning", fn := fun _ => fun
  | [d] => { results := [.lit (.bool false)], args := [d] }
  | _ => none }
def FnSameMeaningWrongFalsely : Prop := fnSameMeaningRow.holds Try.pinned (OpenSpec.ofChange fnSameMeaningWrong)

/-- 'laws.FnReadsOld': WHATEVER THE INPUT: true; the input reads as it did. -/
def fnReadsOldSpec : ChangeSpec := { name := "fnReadsOld", fn := fun _ => fun
  | [d] => { results := [.lit (.bool true)], args := [d] }
  | _ => none }
def fnReadsOldRow : OpenClaim := { program := "ytbkfagncoekbkaa", sum := "2449453cc1fd4ada058d6c6e4345742c3e48135689092b9071304ce743bb30f9", func := "loop.example/namedflags/laws.FnReadsOld", spec := "fnReadsOld", apart := false }
def FnReadsOldSaid : Prop := fnReadsOldRow.holds Try.pinned (OpenSpec.ofChange fnReadsOldSpec)

/-- ITS FALSE NEIGHBOUR: 'it returns false'. Refute it at one input. -/
def fnReadsOldWrong : ChangeSpec := { name := "fnReadsOld", fn := fun _ => fun
  | [d] => { results := [.lit (.bool false)], args := [d] }
  | _ => none }
def FnReadsOldWrongFalsely : Prop := fnReadsOldRow.holds Try.pinned (OpenSpec.ofChange fnReadsOldWrong)

/-- 'laws.FnConvertValue': WHATEVER THE INPUT: true; the input reads as it did. -/
def fnConvertValueSpec : ChangeSpec := { name := "fnConvertValue", fn := fun _ => fun
  | [d] => { results := [.lit (.bool true)], args := [d] }
  | _ => none }
def fnConvertValueRow : OpenClaim := { program := "ytbkfagncoekbkaa", sum := "2449453cc1fd4ada058d6c6e4345742c3e48135689092b9071304ce743bb30f9", func := "loop.example/namedflags/laws.FnConvertValue", spec := "fnConvertValue", unfollowed := true, recurses := true, apart := false }
def FnConvertValueSaid : Prop := fnConvertValueRow.holds Try.pinned (OpenSpec.ofChange fnConvertValueSpec)

/-- ITS FALSE NEIGHBOUR: 'it returns false'. Refute it at one input. -/
def fnConvertValueWrong : ChangeSpec := { name := "fnConvertValue", fn := fun _ => fun
  | [d] => { results := [.lit (.bool false)], args := [d] }
  | _ => none }
def FnConvertValueWrongFalsely : Prop := fnConvertValueRow.holds Try.pinned (OpenSpec.ofChange fnConvertValueWrong)

/- THE SECOND FORM. 'bulk': how many values and letters a reading holds, each counted each time it is reached (what is shared counts as often as it is met; a slice's spare places count too). A statement '..UptoSaid' is the law's where the arguments, and the package variables that the reading takes, are together of bulk at most 1048576: NARROWER than '..Said'. Prove '..Said' where nothing that the law and all that it calls make is longer than what came in: it says more and counts as full. Else prove '..UptoSaid'. A law counts once. -/
mutual
def uptoBulk {H : Type} : DataW H → Nat
  | .lit (.string bytes) => bytes.length + 1
  | .lit _ => 1
  | .nil => 1
  | .ptr d => uptoBulk d + 1
  | .slice elems spare => uptoBulkAll elems + uptoBulkAll spare + 1
  | .agg parts => uptoBulkAll parts + 1
  | .iface _ d => uptoBulk d + 1
  | .map entries => uptoBulkEntries entries + 1
  | .held _ => 1
def uptoBulkAll {H : Type} : List (DataW H) → Nat
  | [] => 0
  | d :: r => uptoBulk d + uptoBulkAll r
def uptoBulkEntries {H : Type} : List (Lit × DataW H) → Nat
  | [] => 0
  | x :: r => uptoBulkEntry x + uptoBulkEntries r
def uptoBulkEntry {H : Type} : Lit × DataW H → Nat
  | (.string bytes, d) => bytes.length + uptoBulk d + 1
  | (_, d) => uptoBulk d + 1
 end
def uptoSmall : (H : Type) → List (DataW H) → Bool := fun _ ds => decide (uptoBulkAll ds ≤ 1048576)
def OpenSpec.upto (s : _root_.Go.ChangeSpec) : _root_.Go.OpenSpec := { _root_.Go.OpenSpec.ofChange s with cond := some uptoSmall }

/-- 'laws.FnValidFlag', WHERE WHAT IT READS IS OF BULK AT MOST 1048576: true; the input reads as it did. -/
def fnValidFlagUptoRow : OpenClaim := { program := "ytbkfagncoekbkaa", sum := "2449453cc1fd4ada058d6c6e4345742c3e48135689092b9071304ce743bb30f9", func := "loop.example/namedflags/laws.FnValidFlag", spec := "fnValidFlag", apart := false, narrowed := true }
def FnValidFlagUptoSaid : Prop := fnValidFlagUptoRow.holds Try.pinned (OpenSpec.upto fnValidFlagSpec)

/-- 'laws.FnBuildFlag', WHERE WHAT IT READS IS OF BULK AT MOST 1048576: true; the input reads as it did. -/
def fnBuildFlagUptoRow : OpenClaim := { program := "ytbkfagncoekbkaa", sum := "2449453cc1fd4ada058d6c6e4345742c3e48135689092b9071304ce743bb30f9", func := "loop.example/namedflags/laws.FnBuildFlag", spec := "fnBuildFlag", unfollowed := true, recurses := true, apart := false, narrowed := true }
def FnBuildFlagUptoSaid : Prop := fnBuildFlagUptoRow.holds Try.pinned (OpenSpec.upto fnBuildFlagSpec)

/-- 'laws.FnSinglesOf', WHERE WHAT IT READS IS OF BULK AT MOST 1048576: true; the input reads as it did. -/
def fnSinglesOfUptoRow : OpenClaim := { program := "ytbkfagncoekbkaa", sum := "2449453cc1fd4ada058d6c6e4345742c3e48135689092b9071304ce743bb30f9", func := "loop.example/namedflags/laws.FnSinglesOf", spec := "fnSinglesOf", unfollowed := true, recurses := true, apart := false, narrowed := true }
def FnSinglesOfUptoSaid : Prop := fnSinglesOfUptoRow.holds Try.pinned (OpenSpec.upto fnSinglesOfSpec)

/-- 'laws.FnComposedOf', WHERE WHAT IT READS IS OF BULK AT MOST 1048576: true; the input reads as it did. -/
def fnComposedOfUptoRow : OpenClaim := { program := "ytbkfagncoekbkaa", sum := "2449453cc1fd4ada058d6c6e4345742c3e48135689092b9071304ce743bb30f9", func := "loop.example/namedflags/laws.FnComposedOf", spec := "fnComposedOf", unfollowed := true, recurses := true, apart := false, narrowed := true }
def FnComposedOfUptoSaid : Prop := fnComposedOfUptoRow.holds Try.pinned (OpenSpec.upto fnComposedOfSpec)

/-- 'laws.FnMakeValueBounds', WHERE WHAT IT READS IS OF BULK AT MOST 1048576: true; the input reads as it did. -/
def fnMakeValueBoundsUptoRow : OpenClaim := { program := "ytbkfagncoekbkaa", sum := "2449453cc1fd4ada058d6c6e4345742c3e48135689092b9071304ce743bb30f9", func := "loop.example/namedflags/laws.FnMakeValueBounds", spec := "fnMakeValueBounds", unfollowed := true, recurses := true, apart := false, narrowed := true }
def FnMakeValueBoundsUptoSaid : Prop := fnMakeValueBoundsUptoRow.holds Try.pinned (OpenSpec.upto fnMakeValueBoundsSpec)

/-- 'laws.FnIsValue', WHERE WHAT IT READS IS OF BULK AT MOST 1048576: true; the input reads as it did. -/
def fnIsValueUptoRow : OpenClaim := { program := "ytbkfagncoekbkaa", sum := "2449453cc1fd4ada058d6c6e4345742c3e48135689092b9071304ce743bb30f9", func := "loop.example/namedflags/laws.FnIsValue", spec := "fnIsValue", unfollowed := true, recurses := true, apart := false, narrowed := true }
def FnIsValueUptoSaid : Prop := fnIsValueUptoRow.holds Try.pinned (OpenSpec.upto fnIsValueSpec)

/-- 'laws.FnMissedMembers', WHERE WHAT IT READS IS OF BULK AT MOST 1048576: true; the input reads as it did. -/
def fnMissedMembersUptoRow : OpenClaim := { program := "ytbkfagncoekbkaa", sum := "2449453cc1fd4ada058d6c6e4345742c3e48135689092b9071304ce743bb30f9", func := "loop.example/namedflags/laws.FnMissedMembers", spec := "fnMissedMembers", apart := false, narrowed := true }
def FnMissedMembersUptoSaid : Prop := fnMissedMembersUptoRow.holds Try.pinned (OpenSpec.upto fnMissedMembersSpec)

/-- 'laws.FnMergeEnums', WHERE WHAT IT READS IS OF BULK AT MOST 1048576: true; the input reads as it did. -/
def fnMergeEnumsUptoRow : OpenClaim := { program := "ytbkfagncoekbkaa", sum := "2449453cc1fd4ada058d6c6e4345742c3e48135689092b9071304ce743bb30f9", func := "loop.example/namedflags/laws.FnMergeEnums", spec := "fnMergeEnums", unfollowed := true, recurses := true, apart := false, narrowed := true }
def FnMergeEnumsUptoSaid : Prop := fnMergeEnumsUptoRow.holds Try.pinned (OpenSpec.upto fnMergeEnumsSpec)

/-- 'laws.FnDiffEnums', WHERE WHAT IT READS IS OF BULK AT MOST 1048576: true; the input reads as it did. -/
def fnDiffEnumsUptoRow : OpenClaim := { program := "ytbkfagncoekbkaa", sum := "2449453cc1fd4ada058d6c6e4345742c3e48135689092b9071304ce743bb30f9", func := "loop.example/namedflags/laws.FnDiffEnums", spec := "fnDiffEnums", unfollowed := true, recurses := true, apart := false, narrowed := true }
def FnDiffEnumsUptoSaid : Prop := fnDiffEnumsUptoRow.holds Try.pinned (OpenSpec.upto fnDiffEnumsSpec)

/-- 'laws.FnSameMeaning', WHERE WHAT IT READS IS OF BULK AT MOST 1048576: true; the input reads as it did. -/
def fnSameMeaningUptoRow : OpenClaim := { program := "ytbkfagncoekbkaa", sum := "2449453cc1fd4ada058d6c6e4345742c3e48135689092b9071304ce743bb30f9", func := "loop.example/namedflags/laws.FnSameMeaning", spec := "fnSameMeaning", unfollowed := true, recurses := true, apart := false, narrowed := true }
def FnSameMeaningUptoSaid : Prop := fnSameMeaningUptoRow.holds Try.pinned (OpenSpec.upto fnSameMeaningSpec)

/-- 'laws.FnReadsOld', WHERE WHAT IT READS IS OF BULK AT MOST 1048576: true; the input reads as it did. -/
def fnReadsOldUptoRow : OpenClaim := { program := "ytbkfagncoekbkaa", sum := "2449453cc1fd4ada058d6c6e4345742c3e48135689092b9071304ce743bb30f9", func := "loop.example/namedflags/laws.FnReadsOld", spec := "fnReadsOld", apart := false, narrowed := true }
def FnReadsOldUptoSaid : Prop := fnReadsOldUptoRow.holds Try.pinned (OpenSpec.upto fnReadsOldSpec)

/-- 'laws.FnConvertValue', WHERE WHAT IT READS IS OF BULK AT MOST 1048576: true; the input reads as it did. -/
def fnConvertValueUptoRow : OpenClaim := { program := "ytbkfagncoekbkaa", sum := "2449453cc1fd4ada058d6c6e4345742c3e48135689092b9071304ce743bb30f9", func := "loop.example/namedflags/laws.FnConvertValue", spec := "fnConvertValue", unfollowed := true, recurses := true, apart := false, narrowed := true }
def FnConvertValueUptoSaid : Prop := fnConvertValueUptoRow.holds Try.pinned (OpenSpec.upto fnConvertValueSpec)

end Rows
end Go.Proofs.Ytbkfagncoekbkaa
