/-
  No cell of these rows narrows 'for every input' (looked for: loops, veiled, ifaces, maps, wideKeys, modest, calm, conditions, laid).
  DERIVED. THE GIVEN ROWS OF THIS SEAT. 10 by the template 'for every input the law returns true; each argument reads behind the call as it read before'; 0 by the template 'total and deterministic' (their statements: YtpkeomdmccipfaaTotals.lean).
  GIVEN WITH THE SEED: the statements are not yours to turn. If you find one false, say at which input.
  Laid BY PROGRAM, IN A SANDBOX (cutbox-rows.mjs): the forced cells as the released guide's own fill.sh prints them over the translation 24a2c99027760f7b… (all of the seat's roots in one cut). By AI agents, Wed Nov 11 2026. No macro, syntax, notation, axiom, sorry.
-/
import Derived.Test.YtpkeomdmccipfaaChecked
import GoSem.Claim
import GoSem.ClaimJoined
import GoSem.ClaimMapViews
import Derived.JoinedTies
import Derived.KernelRfl
namespace Go.Proofs.Ytpkeomdmccipfaa
/- THE CELL 'sum', in the pinned program and in every row, IS THE sha256 OF THE DUMP (.gsa) THAT YtpkeomdmccipfaaProg.lean LOADS. Nothing in Lean hashes anything: it is a label: what it is worth is what the hold of that sum in a sandbox is worth. -/
noncomputable def Try.pinned : Pinned := { name := "ytpkeomdmccipfaa", sum := "24a2c99027760f7bb81c864ba9793aa8d449844534be0c2791575d9a41c19aa9", checked := Try.checked }
namespace Rows
def none {H : Type} : Left H := { results := [], args := [] }

/-- 'laws.FnExactAddDef': WHATEVER THE INPUT: true; the input reads as it did. -/
def fnExactAddDefSpec : ChangeSpec := { name := "fnExactAddDef", fn := fun _ => fun
  | [d1, d2] => { results := [.lit (.bool true)], args := [d1, d2] }
  | _ => none }
def fnExactAddDefRow : OpenClaim := { program := "ytpkeomdmccipfaa", sum := "24a2c99027760f7bb81c864ba9793aa8d449844534be0c2791575d9a41c19aa9", func := "loop.example/namedflags/laws.FnExactAddDef", spec := "fnExactAddDef", apart := false }
def FnExactAddDefSaid : Prop := fnExactAddDefRow.holds Try.pinned (OpenSpec.ofChange fnExactAddDefSpec)

/-- ITS FALSE NEIGHBOUR: 'it returns false'. Refute it at one input. -/
def fnExactAddDefWrong : ChangeSpec := { name := "fnExactAddDef", fn := fun _ => fun
  | [d1, d2] => { results := [.lit (.bool false)], args := [d1, d2] }
  | _ => none }
def FnExactAddDefWrongFalsely : Prop := fnExactAddDefRow.holds Try.pinned (OpenSpec.ofChange fnExactAddDefWrong)

/-- 'laws.FnExactDropDef': WHATEVER THE INPUT: true; the input reads as it did. -/
def fnExactDropDefSpec : ChangeSpec := { name := "fnExactDropDef", fn := fun _ => fun
  | [d1, d2] => { results := [.lit (.bool true)], args := [d1, d2] }
  | _ => none }
def fnExactDropDefRow : OpenClaim := { program := "ytpkeomdmccipfaa", sum := "24a2c99027760f7bb81c864ba9793aa8d449844534be0c2791575d9a41c19aa9", func := "loop.example/namedflags/laws.FnExactDropDef", spec := "fnExactDropDef", unfollowed := true, recurses := true, apart := false }
def FnExactDropDefSaid : Prop := fnExactDropDefRow.holds Try.pinned (OpenSpec.ofChange fnExactDropDefSpec)

/-- ITS FALSE NEIGHBOUR: 'it returns false'. Refute it at one input. -/
def fnExactDropDefWrong : ChangeSpec := { name := "fnExactDropDef", fn := fun _ => fun
  | [d1, d2] => { results := [.lit (.bool false)], args := [d1, d2] }
  | _ => none }
def FnExactDropDefWrongFalsely : Prop := fnExactDropDefRow.holds Try.pinned (OpenSpec.ofChange fnExactDropDefWrong)

/-- 'laws.FnExactRenameDef': WHATEVER THE INPUT: true; the input reads as it did. -/
def fnExactRenameDefSpec : ChangeSpec := { name := "fnExactRenameDef", fn := fun _ => fun
  | [d1, d2, d3] => { results := [.lit (.bool true)], args := [d1, d2, d3] }
  | _ => none }
def fnExactRenameDefRow : OpenClaim := { program := "ytpkeomdmccipfaa", sum := "24a2c99027760f7bb81c864ba9793aa8d449844534be0c2791575d9a41c19aa9", func := "loop.example/namedflags/laws.FnExactRenameDef", spec := "fnExactRenameDef", unfollowed := true, recurses := true, apart := false }
def FnExactRenameDefSaid : Prop := fnExactRenameDefRow.holds Try.pinned (OpenSpec.ofChange fnExactRenameDefSpec)

/-- ITS FALSE NEIGHBOUR: 'it returns false'. Refute it at one input. -/
def fnExactRenameDefWrong : ChangeSpec := { name := "fnExactRenameDef", fn := fun _ => fun
  | [d1, d2, d3] => { results := [.lit (.bool false)], args := [d1, d2, d3] }
  | _ => none }
def FnExactRenameDefWrongFalsely : Prop := fnExactRenameDefRow.holds Try.pinned (OpenSpec.ofChange fnExactRenameDefWrong)

/-- 'laws.FnExactMergeEnums': WHATEVER THE INPUT: true; the input reads as it did. -/
def fnExactMergeEnumsSpec : ChangeSpec := { name := "fnExactMergeEnums", fn := fun _ => fun
  | [d1, d2] => { results := [.lit (.bool true)], args := [d1, d2] }
  | _ => none }
def fnExactMergeEnumsRow : OpenClaim := { program := "ytpkeomdmccipfaa", sum := "24a2c99027760f7bb81c864ba9793aa8d449844534be0c2791575d9a41c19aa9", func := "loop.example/namedflags/laws.FnExactMergeEnums", spec := "fnExactMergeEnums", unfollowed := true, recurses := true, apart := false }
def FnExactMergeEnumsSaid : Prop := fnExactMergeEnumsRow.holds Try.pinned (OpenSpec.ofChange fnExactMergeEnumsSpec)

/-- ITS FALSE NEIGHBOUR: 'it returns false'. Refute it at one input. -/
def fnExactMergeEnumsWrong : ChangeSpec := { name := "fnExactMergeEnums", fn := fun _ => fun
  | [d1, d2] => { results := [.lit (.bool false)], args := [d1, d2] }
  | _ => none }
def FnExactMergeEnumsWrongFalsely : Prop := fnExactMergeEnumsRow.holds Try.pinned (OpenSpec.ofChange fnExactMergeEnumsWrong)

/-- 'laws.FnExactDiffEnums': WHATEVER THE INPUT: true; the input reads as it did. -/
def fnExactDiffEnumsSpec : ChangeSpec := { name := "fnExactDiffEnums", fn := fun _ => fun
  | [d1, d2] => { results := [.lit (.bool true)], args := [d1, d2] }
  | _ => none }
def fnExactDiffEnumsRow : OpenClaim := { program := "ytpkeomdmccipfaa", sum := "24a2c99027760f7bb81c864ba9793aa8d449844534be0c2791575d9a41c19aa9", func := "loop.example/namedflags/laws.FnExactDiffEnums", spec := "fnExactDiffEnums", unfollowed := true, recurses := true, apart := false }
def FnExactDiffEnumsSaid : Prop := fnExactDiffEnumsRow.holds Try.pinned (OpenSpec.ofChange fnExactDiffEnumsSpec)

/-- ITS FALSE NEIGHBOUR: 'it returns false'. Refute it at one input. -/
def fnExactDiffEnumsWrong : ChangeSpec := { name := "fnExactDiffEnums", fn := fun _ => fun
  | [d1, d2] => { results := [.lit (.bool false)], args := [d1, d2] }
  | _ => none }
def FnExactDiffEnumsWrongFalsely : Prop := fnExactDiffEnumsRow.holds Try.pinned (OpenSpec.ofChange fnExactDiffEnumsWrong)

/-- 'laws.FnExactApplyChanges': WHATEVER THE INPUT: true; the input reads as it did. -/
def fnExactApplyChangesSpec : ChangeSpec := { name := "fnExactApplyChanges", fn := fun _ => fun
  | [d1, d2] => { results := [.lit (.bool true)], args := [d1, d2] }
  | _ => none }
def fnExactApplyChangesRow : OpenClaim := { program := "ytpkeomdmccipfaa", sum := "24a2c99027760f7bb81c864ba9793aa8d449844534be0c2791575d9a41c19aa9", func := "loop.example/namedflags/laws.FnExactApplyChanges", spec := "fnExactApplyChanges", unfollowed := true, recurses := true, apart := false }
def FnExactApplyChangesSaid : Prop := fnExactApplyChangesRow.holds Try.pinned (OpenSpec.ofChange fnExactApplyChangesSpec)

/-- ITS FALSE NEIGHBOUR: 'it returns false'. Refute it at one input. -/
def fnExactApplyChangesWrong : ChangeSpec := { name := "fnExactApplyChanges", fn := fun _ => fun
  | [d1, d2] => { results := [.lit (.bool false)], args := [d1, d2] }
  | _ => none }
def FnExactApplyChangesWrongFalsely : Prop := fnExactApplyChangesRow.holds Try.pinned (OpenSpec.ofChange fnExactApplyChangesWrong)

/-- 'laws.FnExactTurnChanges': WHATEVER THE INPUT: true; the input reads as it did. -/
def fnExactTurnChangesSpec : ChangeSpec := { name := "fnExactTurnChanges", fn := fun _ => fun
  | [d] => { results := [.lit (.bool true)], args := [d] }
  | _ => none }
def fnExactTurnChangesRow : OpenClaim := { program := "ytpkeomdmccipfaa", sum := "24a2c99027760f7bb81c864ba9793aa8d449844534be0c2791575d9a41c19aa9", func := "loop.example/namedflags/laws.FnExactTurnChanges", spec := "fnExactTurnChanges", unfollowed := true, recurses := true, apart := false }
def FnExactTurnChangesSaid : Prop := fnExactTurnChangesRow.holds Try.pinned (OpenSpec.ofChange fnExactTurnChangesSpec)

/-- ITS FALSE NEIGHBOUR: 'it returns false'. Refute it at one input. -/
def fnExactTurnChangesWrong : ChangeSpec := { name := "fnExactTurnChanges", fn := fun _ => fun
  | [d] => { results := [.lit (.bool false)], args := [d] }
  | _ => none }
def FnExactTurnChangesWrongFalsely : Prop := fnExactTurnChangesRow.holds Try.pinned (OpenSpec.ofChange fnExactTurnChangesWrong)

/-- 'laws.FnExactSameMeaning': WHATEVER THE INPUT: true; the input reads as it did. -/
def fnExactSameMeaningSpec : ChangeSpec := { name := "fnExactSameMeaning", fn := fun _ => fun
  | [d1, d2] => { results := [.lit (.bool true)], args := [d1, d2] }
  | _ => none }
def fnExactSameMeaningRow : OpenClaim := { program := "ytpkeomdmccipfaa", sum := "24a2c99027760f7bb81c864ba9793aa8d449844534be0c2791575d9a41c19aa9", func := "loop.example/namedflags/laws.FnExactSameMeaning", spec := "fnExactSameMeaning", apart := false }
def FnExactSameMeaningSaid : Prop := fnExactSameMeaningRow.holds Try.pinned (OpenSpec.ofChange fnExactSameMeaningSpec)

/-- ITS FALSE NEIGHBOUR: 'it returns false'. Refute it at one input. -/
def fnExactSameMeaningWrong : ChangeSpec := { name := "fnExactSameMeaning", fn := fun _ => fun
  | [d1, d2] => { results := [.lit (.bool false)], args := [d1, d2] }
  | _ => none }
def FnExactSameMeaningWrongFalsely : Prop := fnExactSameMeaningRow.holds Try.pinned (OpenSpec.ofChange fnExactSameMeaningWrong)

/-- 'laws.FnExactReadsOld': WHATEVER THE INPUT: true; the input reads as it did. -/
def fnExactReadsOldSpec : ChangeSpec := { name := "fnExactReadsOld", fn := fun _ => fun
  | [d1, d2] => { results := [.lit (.bool true)], args := [d1, d2] }
  | _ => none }
def fnExactReadsOldRow : OpenClaim := { program := "ytpkeomdmccipfaa", sum := "24a2c99027760f7bb81c864ba9793aa8d449844534be0c2791575d9a41c19aa9", func := "loop.example/namedflags/laws.FnExactReadsOld", spec := "fnExactReadsOld", apart := false }
def FnExactReadsOldSaid : Prop := fnExactReadsOldRow.holds Try.pinned (OpenSpec.ofChange fnExactReadsOldSpec)

/-- ITS FALSE NEIGHBOUR: 'it returns false'. Refute it at one input. -/
def fnExactReadsOldWrong : ChangeSpec := { name := "fnExactReadsOld", fn := fun _ => fun
  | [d1, d2] => { results := [.lit (.bool false)], args := [d1, d2] }
  | _ => none }
def FnExactReadsOldWrongFalsely : Prop := fnExactReadsOldRow.holds Try.pinned (OpenSpec.ofChange fnExactReadsOldWrong)

/-- 'laws.FnExactSortEnum': WHATEVER THE INPUT: true; the input reads as it did. -/
def fnExactSortEnumSpec : ChangeSpec := { name := "fnExactSortEnum", fn := fun _ => fun
  | [d] => { results := [.lit (.bool true)], args := [d] }
  | _ => none }
def fnExactSortEnumRow : OpenClaim := { program := "ytpkeomdmccipfaa", sum := "24a2c99027760f7bb81c864ba9793aa8d449844534be0c2791575d9a41c19aa9", func := "loop.example/namedflags/laws.FnExactSortEnum", spec := "fnExactSortEnum", unfollowed := true, recurses := true, apart := false }
def FnExactSortEnumSaid : Prop := fnExactSortEnumRow.holds Try.pinned (OpenSpec.ofChange fnExactSortEnumSpec)

/-- ITS FALSE NEIGHBOUR: 'it returns false'. Refute it at one input. -/
def fnExactSortEnumWrong : ChangeSpec := { name := "fnExactSortEnum", fn := fun _ => fun
  | [d] => { results := [.lit (.bool false)], args := [d] }
  | _ => none }
def FnExactSortEnumWrongFalsely : Prop := fnExactSortEnumRow.holds Try.pinned (OpenSpec.ofChange fnExactSortEnumWrong)

/- THE SECOND FORM. 'bulk': how many values and letters a reading holds, each counted each time it is reached (what is shared counts as often as it is met; a slice's spare places count too). A statement '..UptoSaid' is the law's where the arguments, and the package variables that the reading takes, are together of bulk at most 1048576: NARROWER than '..Said'. Prove '..Said' where nothing that the law and all that it calls make is longer than what came in: it says more and counts as full. Else prove '..UptoSaid'. A law counts once. -/
mutual
def uptoBulk {H : Type} : DataW H → Nat
  | .lit (.string bytes) => bytes.length + 1
  | .lit _ => 1
  | .nil => 1
  | .ptr d => uptoBulk d + 1
  | .slice elems spare => uptoBulkAll elems + uptoBulkAll spare + 1
  | .agg parts => uptoBulkAll parts + 1
  | .iface _ d => uptoBulk d + 1
  | .map entries => uptoBulkEntries entries + 1
  | .held _ => 1
def uptoBulkAll {H : Type} : List (DataW H) → Nat
  | [] => 0
  | d :: r => uptoBulk d + uptoBulkAll r
def uptoBulkEntries {H : Type} : List (Lit × DataW H) → Nat
  | [] => 0
  | x :: r => uptoBulkEntry x + uptoBulkEntries r
def uptoBulkEntry {H : Type} : Lit × DataW H → Nat
  | (.string bytes, d) => bytes.length + uptoBulk d + 1
  | (_, d) => uptoBulk d + 1
 end
def uptoSmall : (H : Type) → List (DataW H) → Bool := fun _ ds => decide (uptoBulkAll ds ≤ 1048576)
def OpenSpec.upto (s : _root_.Go.ChangeSpec) : _root_.Go.OpenSpec := { _root_.Go.OpenSpec.ofChange s with cond := some uptoSmall }

/-- 'laws.FnExactAddDef', WHERE WHAT IT READS IS OF BULK AT MOST 1048576: true; the input reads as it did. -/
def fnExactAddDefUptoRow : OpenClaim := { program := "ytpkeomdmccipfaa", sum := "24a2c99027760f7bb81c864ba9793aa8d449844534be0c2791575d9a41c19aa9", func := "loop.example/namedflags/laws.FnExactAddDef", spec := "fnExactAddDef", apart := false, narrowed := true }
def FnExactAddDefUptoSaid : Prop := fnExactAddDefUptoRow.holds Try.pinned (OpenSpec.upto fnExactAddDefSpec)

/-- 'laws.FnExactDropDef', WHERE WHAT IT READS IS OF BULK AT MOST 1048576: true; the input reads as it did. -/
def fnExactDropDefUptoRow : OpenClaim := { program := "ytpkeomdmccipfaa", sum := "24a2c99027760f7bb81c864ba9793aa8d449844534be0c2791575d9a41c19aa9", func := "loop.example/namedflags/laws.FnExactDropDef", spec := "fnExactDropDef", unfollowed := true, recurses := true, apart := false, narrowed := true }
def FnExactDropDefUptoSaid : Prop := fnExactDropDefUptoRow.holds Try.pinned (OpenSpec.upto fnExactDropDefSpec)

/-- 'laws.FnExactRenameDef', WHERE WHAT IT READS IS OF BULK AT MOST 1048576: true; the input reads as it did. -/
def fnExactRenameDefUptoRow : OpenClaim := { program := "ytpkeomdmccipfaa", sum := "24a2c99027760f7bb81c864ba9793aa8d449844534be0c2791575d9a41c19aa9", func := "loop.example/namedflags/laws.FnExactRenameDef", spec := "fnExactRenameDef", unfollowed := true, recurses := true, apart := false, narrowed := true }
def FnExactRenameDefUptoSaid : Prop := fnExactRenameDefUptoRow.holds Try.pinned (OpenSpec.upto fnExactRenameDefSpec)

/-- 'laws.FnExactMergeEnums', WHERE WHAT IT READS IS OF BULK AT MOST 1048576: true; the input reads as it did. -/
def fnExactMergeEnumsUptoRow : OpenClaim := { program := "ytpkeomdmccipfaa", sum := "24a2c99027760f7bb81c864ba9793aa8d449844534be0c2791575d9a41c19aa9", func := "loop.example/namedflags/laws.FnExactMergeEnums", spec := "fnExactMergeEnums", unfollowed := true, recurses := true, apart := false, narrowed := true }
def FnExactMergeEnumsUptoSaid : Prop := fnExactMergeEnumsUptoRow.holds Try.pinned (OpenSpec.upto fnExactMergeEnumsSpec)

/-- 'laws.FnExactDiffEnums', WHERE WHAT IT READS IS OF BULK AT MOST 1048576: true; the input reads as it did. -/
def fnExactDiffEnumsUptoRow : OpenClaim := { program := "ytpkeomdmccipfaa", sum := "24a2c99027760f7bb81c864ba9793aa8d449844534be0c2791575d9a41c19aa9", func := "loop.example/namedflags/laws.FnExactDiffEnums", spec := "fnExactDiffEnums", unfollowed := true, recurses := true, apart := false, narrowed := true }
def FnExactDiffEnumsUptoSaid : Prop := fnExactDiffEnumsUptoRow.holds Try.pinned (OpenSpec.upto fnExactDiffEnumsSpec)

/-- 'laws.FnExactApplyChanges', WHERE WHAT IT READS IS OF BULK AT MOST 1048576: true; the input reads as it did. -/
def fnExactApplyChangesUptoRow : OpenClaim := { program := "ytpkeomdmccipfaa", sum := "24a2c99027760f7bb81c864ba9793aa8d449844534be0c2791575d9a41c19aa9", func := "loop.example/namedflags/laws.FnExactApplyChanges", spec := "fnExactApplyChanges", unfollowed := true, recurses := true, apart := false, narrowed := true }
def FnExactApplyChangesUptoSaid : Prop := fnExactApplyChangesUptoRow.holds Try.pinned (OpenSpec.upto fnExactApplyChangesSpec)

/-- 'laws.FnExactTurnChanges', WHERE WHAT IT READS IS OF BULK AT MOST 1048576: true; the input reads as it did. -/
def fnExactTurnChangesUptoRow : OpenClaim := { program := "ytpkeomdmccipfaa", sum := "24a2c99027760f7bb81c864ba9793aa8d449844534be0c2791575d9a41c19aa9", func := "loop.example/namedflags/laws.FnExactTurnChanges", spec := "fnExactTurnChanges", unfollowed := true, recurses := true, apart := false, narrowed := true }
def FnExactTurnChangesUptoSaid : Prop := fnExactTurnChangesUptoRow.holds Try.pinned (OpenSpec.upto fnExactTurnChangesSpec)

/-- 'laws.FnExactSameMeaning', WHERE WHAT IT READS IS OF BULK AT MOST 1048576: true; the input reads as it did. -/
def fnExactSameMeaningUptoRow : OpenClaim := { program := "ytpkeomdmccipfaa", sum := "24a2c99027760f7bb81c864ba9793aa8d449844534be0c2791575d9a41c19aa9", func := "loop.example/namedflags/laws.FnExactSameMeaning", spec := "fnExactSameMeaning", apart := false, narrowed := true }
def FnExactSameMeaningUptoSaid : Prop := fnExactSameMeaningUptoRow.holds Try.pinned (OpenSpec.upto fnExactSameMeaningSpec)

/-- 'laws.FnExactReadsOld', WHERE WHAT IT READS IS OF BULK AT MOST 1048576: true; the input reads as it did. -/
def fnExactReadsOldUptoRow : OpenClaim := { program := "ytpkeomdmccipfaa", sum := "24a2c99027760f7bb81c864ba9793aa8d449844534be0c2791575d9a41c19aa9", func := "loop.example/namedflags/laws.FnExactReadsOld", spec := "fnExactReadsOld", apart := false, narrowed := true }
def FnExactReadsOldUptoSaid : Prop := fnExactReadsOldUptoRow.holds Try.pinned (OpenSpec.upto fnExactReadsOldSpec)

/-- 'laws.FnExactSortEnum', WHERE WHAT IT READS IS OF BULK AT MOST 1048576: true; the input reads as it did. -/
def fnExactSortEnumUptoRow : OpenClaim := { program := "ytpkeomdmccipfaa", sum := "24a2c99027760f7bb81c864ba9793aa8d449844534be0c2791575d9a41c19aa9", func := "loop.example/namedflags/laws.FnExactSortEnum", spec := "fnExactSortEnum", unfollowed := true, recurses := true, apart := false, narrowed := true }
def FnExactSortEnumUptoSaid : Prop := fnExactSortEnumUptoRow.holds Try.pinned (OpenSpec.upto fnExactSortEnumSpec)

end Rows
end Go.Proofs.Ytpkeomdmccipfaa
