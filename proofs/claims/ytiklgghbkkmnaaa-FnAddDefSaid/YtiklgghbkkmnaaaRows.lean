/-
  No cell of these rows narrows 'for every input' (looked for: loops, veiled, ifaces, maps, wideKeys, modest, calm, conditions, laid).
  DERIVED. THE GIVEN ROWS OF THIS SEAT. 12 by the template 'for every input the law returns true; each argument reads behind the call as it read before'; 0 by the template 'total and deterministic' (their statements: YtiklgghbkkmnaaaTotals.lean).
  GIVEN WITH THE SEED: the statements are not yours to turn. If you find one false, say at which input.
  Laid BY PROGRAM, IN A SANDBOX (cutbox-rows.mjs): the forced cells as the released guide's own fill.sh prints them over the translation 7dc699bb6f4d70f7… (all of the seat's roots in one cut). By AI agents, Wed Nov 11 2026. No macro, syntax, notation, axiom, sorry.
-/
import Derived.Test.YtiklgghbkkmnaaaChecked
import GoSem.Claim
import GoSem.ClaimJoined
import GoSem.ClaimMapViews
import Derived.JoinedTies
import Derived.KernelRfl
namespace Go.Proofs.Ytiklgghbkkmnaaa
/- THE CELL 'sum', in the pinned program and in every row, IS THE sha256 OF THE DUMP (.gsa) THAT YtiklgghbkkmnaaaProg.lean LOADS. Nothing in Lean hashes anything: it is a label: what it is worth is what the hold of that sum in a sandbox is worth. -/
noncomputable def Try.pinned : Pinned := { name := "ytiklgghbkkmnaaa", sum := "7dc699bb6f4d70f71565d286c3f42a01aad1ffd0d09d3080da2a463c8b57ceef", checked := Try.checked }
namespace Rows
def none {H : Type} : Left H := { results := [], args := [] }

/-- 'laws.FnAddDef': WHATEVER THE INPUT: true; the input reads as it did. -/
def fnAddDefSpec : ChangeSpec := { name := "fnAddDef", fn := fun _ => fun
  | [d] => { results := [.lit (.bool true)], args := [d] }
  | _ => none }
def fnAddDefRow : OpenClaim := { program := "ytiklgghbkkmnaaa", sum := "7dc699bb6f4d70f71565d286c3f42a01aad1ffd0d09d3080da2a463c8b57ceef", func := "loop.example/namedflags/laws.FnAddDef", spec := "fnAddDef", unfollowed := true, recurses := true, apart := false }
def FnAddDefSaid : Prop := fnAddDefRow.holds Try.pinned (OpenSpec.ofChange fnAddDefSpec)

/-- ITS FALSE NEIGHBOUR: 'it returns false'. Refute it at one input. -/
def fnAddDefWrong : ChangeSpec := { name := "fnAddDef", fn := fun _ => fun
  | [d] => { results := [.lit (.bool false)], args := [d] }
  | _ => none }
def FnAddDefWrongFalsely : Prop := fnAddDefRow.holds Try.pinned (OpenSpec.ofChange fnAddDefWrong)

/-- 'laws.FnDropDef': WHATEVER THE INPUT: true; the input reads as it did. -/
def fnDropDefSpec : ChangeSpec := { name := "fnDropDef", fn := fun _ => fun
  | [d] => { results := [.lit (.bool true)], args := [d] }
  | _ => none }
def fnDropDefRow : OpenClaim := { program := "ytiklgghbkkmnaaa", sum := "7dc699bb6f4d70f71565d286c3f42a01aad1ffd0d09d3080da2a463c8b57ceef", func := "loop.example/namedflags/laws.FnDropDef", spec := "fnDropDef", unfollowed := true, recurses := true, apart := false }
def FnDropDefSaid : Prop := fnDropDefRow.holds Try.pinned (OpenSpec.ofChange fnDropDefSpec)

/-- ITS FALSE NEIGHBOUR: 'it returns false'. Refute it at one input. -/
def fnDropDefWrong : ChangeSpec := { name := "fnDropDef", fn := fun _ => fun
  | [d] => { results := [.lit (.bool false)], args := [d] }
  | _ => none }
def FnDropDefWrongFalsely : Prop := fnDropDefRow.holds Try.pinned (OpenSpec.ofChange fnDropDefWrong)

/-- 'laws.FnRenameDef': WHATEVER THE INPUT: true; the input reads as it did. -/
def fnRenameDefSpec : ChangeSpec := { name := "fnRenameDef", fn := fun _ => fun
  | [d] => { results := [.lit (.bool true)], args := [d] }
  | _ => none }
def fnRenameDefRow : OpenClaim := { program := "ytiklgghbkkmnaaa", sum := "7dc699bb6f4d70f71565d286c3f42a01aad1ffd0d09d3080da2a463c8b57ceef", func := "loop.example/namedflags/laws.FnRenameDef", spec := "fnRenameDef", unfollowed := true, recurses := true, apart := false }
def FnRenameDefSaid : Prop := fnRenameDefRow.holds Try.pinned (OpenSpec.ofChange fnRenameDefSpec)

/-- ITS FALSE NEIGHBOUR: 'it returns false'. Refute it at one input. -/
def fnRenameDefWrong : ChangeSpec := { name := "fnRenameDef", fn := fun _ => fun
  | [d] => { results := [.lit (.bool false)], args := [d] }
  | _ => none }
def FnRenameDefWrongFalsely : Prop := fnRenameDefRow.holds Try.pinned (OpenSpec.ofChange fnRenameDefWrong)

/-- 'laws.FnMergeEnums': WHATEVER THE INPUT: true; the input reads as it did. -/
def fnMergeEnumsSpec : ChangeSpec := { name := "fnMergeEnums", fn := fun _ => fun
  | [d] => { results := [.lit (.bool true)], args := [d] }
  | _ => none }
def fnMergeEnumsRow : OpenClaim := { program := "ytiklgghbkkmnaaa", sum := "7dc699bb6f4d70f71565d286c3f42a01aad1ffd0d09d3080da2a463c8b57ceef", func := "loop.example/namedflags/laws.FnMergeEnums", spec := "fnMergeEnums", unfollowed := true, recurses := true, apart := false }
def FnMergeEnumsSaid : Prop := fnMergeEnumsRow.holds Try.pinned (OpenSpec.ofChange fnMergeEnumsSpec)

/-- ITS FALSE NEIGHBOUR: 'it returns false'. Refute it at one input. -/
def fnMergeEnumsWrong : ChangeSpec := { name := "fnMergeEnums", fn := fun _ => fun
  | [d] => { results := [.lit (.bool false)], args := [d] }
  | _ => none }
def FnMergeEnumsWrongFalsely : Prop := fnMergeEnumsRow.holds Try.pinned (OpenSpec.ofChange fnMergeEnumsWrong)

/-- 'laws.FnDiffEnums': WHATEVER THE INPUT: true; the input reads as it did. -/
def fnDiffEnumsSpec : ChangeSpec := { name := "fnDiffEnums", fn := fun _ => fun
  | [d] => { results := [.lit (.bool true)], args := [d] }
  | _ => none }
def fnDiffEnumsRow : OpenClaim := { program := "ytiklgghbkkmnaaa", sum := "7dc699bb6f4d70f71565d286c3f42a01aad1ffd0d09d3080da2a463c8b57ceef", func := "loop.example/namedflags/laws.FnDiffEnums", spec := "fnDiffEnums", unfollowed := true, recurses := true, apart := false }
def FnDiffEnumsSaid : Prop := fnDiffEnumsRow.holds Try.pinned (OpenSpec.ofChange fnDiffEnumsSpec)

/-- ITS FALSE NEIGHBOUR: 'it returns false'. Refute it at one input. -/
def fnDiffEnumsWrong : ChangeSpec := { name := "fnDiffEnums", fn := fun _ => fun
  | [d] => { results := [.lit (.bool false)], args := [d] }
  | _ => none }
def FnDiffEnumsWrongFalsely : Prop := fnDiffEnumsRow.holds Try.pinned (OpenSpec.ofChange fnDiffEnumsWrong)

/-- 'laws.FnApplyChanges': WHATEVER THE INPUT: true; the input reads as it did. -/
def fnApplyChangesSpec : ChangeSpec := { name := "fnApplyChanges", fn := fun _ => fun
  | [d] => { results := [.lit (.bool true)], args := [d] }
  | _ => none }
def fnApplyChangesRow : OpenClaim := { program := "ytiklgghbkkmnaaa", sum := "7dc699bb6f4d70f71565d286c3f42a01aad1ffd0d09d3080da2a463c8b57ceef", func := "loop.example/namedflags/laws.FnApplyChanges", spec := "fnApplyChanges", unfollowed := true, recurses := true, apart := false }
def FnApplyChangesSaid : Prop := fnApplyChangesRow.holds Try.pinned (OpenSpec.ofChange fnApplyChangesSpec)

/-- ITS FALSE NEIGHBOUR: 'it returns false'. Refute it at one input. -/
def fnApplyChangesWrong : ChangeSpec := { name := "fnApplyChanges", fn := fun _ => fun
  | [d] => { results := [.lit (.bool false)], args := [d] }
  | _ => none }
def FnApplyChangesWrongFalsely : Prop := fnApplyChangesRow.holds Try.pinned (OpenSpec.ofChange fnApplyChangesWrong)

/-- 'laws.FnApplyChangesOne': WHATEVER THE INPUT: true; the input reads as it did. -/
def fnApplyChangesOneSpec : ChangeSpec := { name := "fnApplyChangesOne", fn := fun _ => fun
  | [d] => { results := [.lit (.bool true)], args := [d] }
  | _ => none }
def fnApplyChangesOneRow : OpenClaim := { program := "ytiklgghbkkmnaaa", sum := "7dc699bb6f4d70f71565d286c3f42a01aad1ffd0d09d3080da2a463c8b57ceef", func := "loop.example/namedflags/laws.FnApplyChangesOne", spec := "fnApplyChangesOne", unfollowed := true, recurses := true, apart := false }
def FnApplyChangesOneSaid : Prop := fnApplyChangesOneRow.holds Try.pinned (OpenSpec.ofChange fnApplyChangesOneSpec)

/-- ITS FALSE NEIGHBOUR: 'it returns false'. Refute it at one input. -/
def fnApplyChangesOneWrong : ChangeSpec := { name := "fnApplyChangesOne", fn := fun _ => fun
  | [d] => { results := [.lit (.bool false)], args := [d] }
  | _ => none }
def FnApplyChangesOneWrongFalsely : Prop := fnApplyChangesOneRow.holds Try.pinned (OpenSpec.ofChange fnApplyChangesOneWrong)

/-- 'laws.FnTurnChanges': WHATEVER THE INPUT: true; the input reads as it did. -/
def fnTurnChangesSpec : ChangeSpec := { name := "fnTurnChanges", fn := fun _ => fun
  | [d] => { results := [.lit (.bool true)], args := [d] }
  | _ => none }
def fnTurnChangesRow : OpenClaim := { program := "ytiklgghbkkmnaaa", sum := "7dc699bb6f4d70f71565d286c3f42a01aad1ffd0d09d3080da2a463c8b57ceef", func := "loop.example/namedflags/laws.FnTurnChanges", spec := "fnTurnChanges", unfollowed := true, recurses := true, apart := false }
def FnTurnChangesSaid : Prop := fnTurnChangesRow.holds Try.pinned (OpenSpec.ofChange fnTurnChangesSpec)

/-- ITS FALSE NEIGHBOUR: 'it returns false'. Refute it at one input. -/
def fnTurnChangesWrong : ChangeSpec := { name := "fnTurnChanges", fn := fun _ => fun
  | [d] => { results := [.lit (.bool false)], args := [d] }
  | _ => none }
def FnTurnChangesWrongFalsely : Prop := fnTurnChangesRow.holds Try.pinned (OpenSpec.ofChange fnTurnChangesWrong)

/-- 'laws.FnSameMeaning': WHATEVER THE INPUT: true; the input reads as it did. -/
def fnSameMeaningSpec : ChangeSpec := { name := "fnSameMeaning", fn := fun _ => fun
  | [d] => { results := [.lit (.bool true)], args := [d] }
  | _ => none }
def fnSameMeaningRow : OpenClaim := { program := "ytiklgghbkkmnaaa", sum := "7dc699bb6f4d70f71565d286c3f42a01aad1ffd0d09d3080da2a463c8b57ceef", func := "loop.example/namedflags/laws.FnSameMeaning", spec := "fnSameMeaning", unfollowed := true, recurses := true, apart := false }
def FnSameMeaningSaid : Prop := fnSameMeaningRow.holds Try.pinned (OpenSpec.ofChange fnSameMeaningSpec)

/-- ITS FALSE NEIGHBOUR: 'it returns false'. Refute it at one input. -/
def fnSameMeaningWrong : ChangeSpec := { name := "fnSameMeaning", fn := fun _ => fun
  | [d] => { results := [.lit (.bool false)], args := [d] }
  | _ => none }
def FnSameMeaningWrongFalsely : Prop := fnSameMeaningRow.holds Try.pinned (OpenSpec.ofChange fnSameMeaningWrong)

/-- 'laws.FnReadsOld': WHATEVER THE INPUT: true; the input reads as it did. -/
def fnReadsOldSpec : ChangeSpec := { name := "fnReadsOld", fn := fun _ => fun
  | [d] => { results := [.lit (.bool true)], args := [d] }
  | _ => none }
def fnReadsOldRow : OpenClaim := { program := "ytiklgghbkkmnaaa", sum := "7dc699bb6f4d70f71565d286c3f42a01aad1ffd0d09d3080da2a463c8b57ceef", func := "loop.example/namedflags/laws.FnReadsOld", spec := "fnReadsOld", apart := false }
def FnReadsOldSaid : Prop := fnReadsOldRow.holds Try.pinned (OpenSpec.ofChange fnReadsOldSpec)

/-- ITS FALSE NEIGHBOUR: 'it returns false'. Refute it at one input. -/
def fnReadsOldWrong : ChangeSpec := { name := "fnReadsOld", fn := fun _ => fun
  | [d] => { results := [.lit (.bool false)], args := [d] }
  | _ => none }
def FnReadsOldWrongFalsely : Prop := fnReadsOldRow.holds Try.pinned (OpenSpec.ofChange fnReadsOldWrong)

/-- 'laws.FnSortEnum': WHATEVER THE INPUT: true; the input reads as it did. -/
def fnSortEnumSpec : ChangeSpec := { name := "fnSortEnum", fn := fun _ => fun
  | [d] => { results := [.lit (.bool true)], args := [d] }
  | _ => none }
def fnSortEnumRow : OpenClaim := { program := "ytiklgghbkkmnaaa", sum := "7dc699bb6f4d70f71565d286c3f42a01aad1ffd0d09d3080da2a463c8b57ceef", func := "loop.example/namedflags/laws.FnSortEnum", spec := "fnSortEnum", unfollowed := true, recurses := true, apart := false }
def FnSortEnumSaid : Prop := fnSortEnumRow.holds Try.pinned (OpenSpec.ofChange fnSortEnumSpec)

/-- ITS FALSE NEIGHBOUR: 'it returns false'. Refute it at one input. -/
def fnSortEnumWrong : ChangeSpec := { name := "fnSortEnum", fn := fun _ => fun
  | [d] => { results := [.lit (.bool false)], args := [d] }
  | _ => none }
def FnSortEnumWrongFalsely : Prop := fnSortEnumRow.holds Try.pinned (OpenSpec.ofChange fnSortEnumWrong)

/-- 'laws.FnExactTurnChanges': WHATEVER THE INPUT: true; the input reads as it did. -/
def fnExactTurnChangesSpec : ChangeSpec := { name := "fnExactTurnChanges", fn := fun _ => fun
  | [d] => { results := [.lit (.bool true)], args := [d] }
  | _ => none }
def fnExactTurnChangesRow : OpenClaim := { program := "ytiklgghbkkmnaaa", sum := "7dc699bb6f4d70f71565d286c3f42a01aad1ffd0d09d3080da2a463c8b57ceef", func := "loop.example/namedflags/laws.FnExactTurnChanges", spec := "fnExactTurnChanges", unfollowed := true, recurses := true, apart := false }
def FnExactTurnChangesSaid : Prop := fnExactTurnChangesRow.holds Try.pinned (OpenSpec.ofChange fnExactTurnChangesSpec)

/-- ITS FALSE NEIGHBOUR: 'it returns false'. Refute it at one input. -/
def fnExactTurnChangesWrong : ChangeSpec := { name := "fnExactTurnChanges", fn := fun _ => fun
  | [d] => { results := [.lit (.bool false)], args := [d] }
  | _ => none }
def FnExactTurnChangesWrongFalsely : Prop := fnExactTurnChangesRow.holds Try.pinned (OpenSpec.ofChange fnExactTurnChangesWrong)

/- THE SECOND FORM. 'bulk': how many values and letters a reading holds, each counted each time it is reached (what is shared counts as often as it is met; a slice's spare places count too). A statement '..UptoSaid' is the law's where the arguments, and the package variables that the reading takes, are together of bulk at most 1048576: NARROWER than '..Said'. Prove '..Said' where nothing that the law and all that it calls make is longer than what came in: it says more and counts as full. Else prove '..UptoSaid'. A law counts once. -/
mutual
def uptoBulk {H : Type} : DataW H → Nat
  | .lit (.string bytes) => bytes.length + 1
  | .lit _ => 1
  | .nil => 1
  | .ptr d => uptoBulk d + 1
  | .slice elems spare => uptoBulkAll elems + uptoBulkAll spare + 1
  | .agg parts => uptoBulkAll parts + 1
  | .iface _ d => uptoBulk d + 1
  | .map entries => uptoBulkEntries entries + 1
  | .held _ => 1
def uptoBulkAll {H : Type} : List (DataW H) → Nat
  | [] => 0
  | d :: r => uptoBulk d + uptoBulkAll r
def uptoBulkEntries {H : Type} : List (Lit × DataW H) → Nat
  | [] => 0
  | x :: r => uptoBulkEntry x + uptoBulkEntries r
def uptoBulkEntry {H : Type} : Lit × DataW H → Nat
  | (.string bytes, d) => bytes.length + uptoBulk d + 1
  | (_, d) => uptoBulk d + 1
 end
def uptoSmall : (H : Type) → List (DataW H) → Bool := fun _ ds => decide (uptoBulkAll ds ≤ 1048576)
def OpenSpec.upto (s : _root_.Go.ChangeSpec) : _root_.Go.OpenSpec := { _root_.Go.OpenSpec.ofChange s with cond := some uptoSmall }

/-- 'laws.FnAddDef', WHERE WHAT IT READS IS OF BULK AT MOST 1048576: true; the input reads as it did. -/
def fnAddDefUptoRow : OpenClaim := { program := "ytiklgghbkkmnaaa", sum := "7dc699bb6f4d70f71565d286c3f42a01aad1ffd0d09d3080da2a463c8b57ceef", func := "loop.example/namedflags/laws.FnAddDef", spec := "fnAddDef", unfollowed := true, recurses := true, apart := false, narrowed := true }
def FnAddDefUptoSaid : Prop := fnAddDefUptoRow.holds Try.pinned (OpenSpec.upto fnAddDefSpec)

/-- 'laws.FnDropDef', WHERE WHAT IT READS IS OF BULK AT MOST 1048576: true; the input reads as it did. -/
def fnDropDefUptoRow : OpenClaim := { program := "ytiklgghbkkmnaaa", sum := "7dc699bb6f4d70f71565d286c3f42a01aad1ffd0d09d3080da2a463c8b57ceef", func := "loop.example/namedflags/laws.FnDropDef", spec := "fnDropDef", unfollowed := true, recurses := true, apart := false, narrowed := true }
def FnDropDefUptoSaid : Prop := fnDropDefUptoRow.holds Try.pinned (OpenSpec.upto fnDropDefSpec)

/-- 'laws.FnRenameDef', WHERE WHAT IT READS IS OF BULK AT MOST 1048576: true; the input reads as it did. -/
def fnRenameDefUptoRow : OpenClaim := { program := "ytiklgghbkkmnaaa", sum := "7dc699bb6f4d70f71565d286c3f42a01aad1ffd0d09d3080da2a463c8b57ceef", func := "loop.example/namedflags/laws.FnRenameDef", spec := "fnRenameDef", unfollowed := true, recurses := true, apart := false, narrowed := true }
def FnRenameDefUptoSaid : Prop := fnRenameDefUptoRow.holds Try.pinned (OpenSpec.upto fnRenameDefSpec)

/-- 'laws.FnMergeEnums', WHERE WHAT IT READS IS OF BULK AT MOST 1048576: true; the input reads as it did. -/
def fnMergeEnumsUptoRow : OpenClaim := { program := "ytiklgghbkkmnaaa", sum := "7dc699bb6f4d70f71565d286c3f42a01aad1ffd0d09d3080da2a463c8b57ceef", func := "loop.example/namedflags/laws.FnMergeEnums", spec := "fnMergeEnums", unfollowed := true, recurses := true, apart := false, narrowed := true }
def FnMergeEnumsUptoSaid : Prop := fnMergeEnumsUptoRow.holds Try.pinned (OpenSpec.upto fnMergeEnumsSpec)

/-- 'laws.FnDiffEnums', WHERE WHAT IT READS IS OF BULK AT MOST 1048576: true; the input reads as it did. -/
def fnDiffEnumsUptoRow : OpenClaim := { program := "ytiklgghbkkmnaaa", sum := "7dc699bb6f4d70f71565d286c3f42a01aad1ffd0d09d3080da2a463c8b57ceef", func := "loop.example/namedflags/laws.FnDiffEnums", spec := "fnDiffEnums", unfollowed := true, recurses := true, apart := false, narrowed := true }
def FnDiffEnumsUptoSaid : Prop := fnDiffEnumsUptoRow.holds Try.pinned (OpenSpec.upto fnDiffEnumsSpec)

/-- 'laws.FnApplyChanges', WHERE WHAT IT READS IS OF BULK AT MOST 1048576: true; the input reads as it did. -/
def fnApplyChangesUptoRow : OpenClaim := { program := "ytiklgghbkkmnaaa", sum := "7dc699bb6f4d70f71565d286c3f42a01aad1ffd0d09d3080da2a463c8b57ceef", func := "loop.example/namedflags/laws.FnApplyChanges", spec := "fnApplyChanges", unfollowed := true, recurses := true, apart := false, narrowed := true }
def FnApplyChangesUptoSaid : Prop := fnApplyChangesUptoRow.holds Try.pinned (OpenSpec.upto fnApplyChangesSpec)

/-- 'laws.FnApplyChangesOne', WHERE WHAT IT READS IS OF BULK AT MOST 1048576: true; the input reads as it did. -/
def fnApplyChangesOneUptoRow : OpenClaim := { program := "ytiklgghbkkmnaaa", sum := "7dc699bb6f4d70f71565d286c3f42a01aad1ffd0d09d3080da2a463c8b57ceef", func := "loop.example/namedflags/laws.FnApplyChangesOne", spec := "fnApplyChangesOne", unfollowed := true, recurses := true, apart := false, narrowed := true }
def FnApplyChangesOneUptoSaid : Prop := fnApplyChangesOneUptoRow.holds Try.pinned (OpenSpec.upto fnApplyChangesOneSpec)

/-- 'laws.FnTurnChanges', WHERE WHAT IT READS IS OF BULK AT MOST 1048576: true; the input reads as it did. -/
def fnTurnChangesUptoRow : OpenClaim := { program := "ytiklgghbkkmnaaa", sum := "7dc699bb6f4d70f71565d286c3f42a01aad1ffd0d09d3080da2a463c8b57ceef", func := "loop.example/namedflags/laws.FnTurnChanges", spec := "fnTurnChanges", unfollowed := true, recurses := true, apart := false, narrowed := true }
def FnTurnChangesUptoSaid : Prop := fnTurnChangesUptoRow.holds Try.pinned (OpenSpec.upto fnTurnChangesSpec)

/-- 'laws.FnSameMeaning', WHERE WHAT IT READS IS OF BULK AT MOST 1048576: true; the input reads as it did. -/
def fnSameMeaningUptoRow : OpenClaim := { program := "ytiklgghbkkmnaaa", sum := "7dc699bb6f4d70f71565d286c3f42a01aad1ffd0d09d3080da2a463c8b57ceef", func := "loop.example/namedflags/laws.FnSameMeaning", spec := "fnSameMeaning", unfollowed := true, recurses := true, apart := false, narrowed := true }
def FnSameMeaningUptoSaid : Prop := fnSameMeaningUptoRow.holds Try.pinned (OpenSpec.upto fnSameMeaningSpec)

/-- 'laws.FnReadsOld', WHERE WHAT IT READS IS OF BULK AT MOST 1048576: true; the input reads as it did. -/
def fnReadsOldUptoRow : OpenClaim := { program := "ytiklgghbkkmnaaa", sum := "7dc699bb6f4d70f71565d286c3f42a01aad1ffd0d09d3080da2a463c8b57ceef", func := "loop.example/namedflags/laws.FnReadsOld", spec := "fnReadsOld", apart := false, narrowed := true }
def FnReadsOldUptoSaid : Prop := fnReadsOldUptoRow.holds Try.pinned (OpenSpec.upto fnReadsOldSpec)

/-- 'laws.FnSortEnum', WHERE WHAT IT READS IS OF BULK AT MOST 1048576: true; the input reads as it did. -/
def fnSortEnumUptoRow : OpenClaim := { program := "ytiklgghbkkmnaaa", sum := "7dc699bb6f4d70f71565d286c3f42a01aad1ffd0d09d3080da2a463c8b57ceef", func := "loop.example/namedflags/laws.FnSortEnum", spec := "fnSortEnum", unfollowed := true, recurses := true, apart := false, narrowed := true }
def FnSortEnumUptoSaid : Prop := fnSortEnumUptoRow.holds Try.pinned (OpenSpec.upto fnSortEnumSpec)

/-- 'laws.FnExactTurnChanges', WHERE WHAT IT READS IS OF BULK AT MOST 1048576: true; the input reads as it did. -/
def fnExactTurnChangesUptoRow : OpenClaim := { program := "ytiklgghbkkmnaaa", sum := "7dc699bb6f4d70f71565d286c3f42a01aad1ffd0d09d3080da2a463c8b57ceef", func := "loop.example/namedflags/laws.FnExactTurnChanges", spec := "fnExactTurnChanges", unfollowed := true, recurses := true, apart := false, narrowed := true }
def FnExactTurnChangesUptoSaid : Prop := fnExactTurnChangesUptoRow.holds Try.pinned (OpenSpec.upto fnExactTurnChangesSpec)

end Rows
end Go.Proofs.Ytiklgghbkkmnaaa
