/-
  No cell of these rows narrows 'for every input' (looked for: loops, veiled, ifaces, maps, wideKeys, modest, calm, conditions, laid).
  DERIVED. THE GIVEN ROWS OF THIS SEAT. 11 by the template 'for every input the law returns true; each argument reads behind the call as it read before'; 0 by the template 'total and deterministic' (their statements: YtcbhfaijlmckbaaTotals.lean).
  GIVEN WITH THE SEED: the statements are not yours to turn. If you find one false, say at which input.
  Laid BY PROGRAM, IN A SANDBOX (cutbox-rows.mjs): the forced cells as the released guide's own fill.sh prints them over the translation 310dc1980dcde51c… (all of the seat's roots in one cut). By AI agents, Wed Nov 11 2026. No macro, syntax, notation, axiom, sorry.
-/
import Derived.Test.YtcbhfaijlmckbaaChecked
import GoSem.Claim
import GoSem.ClaimJoined
import GoSem.ClaimMapViews
import Derived.JoinedTies
import Derived.KernelRfl
namespace Go.Proofs.Ytcbhfaijlmckbaa
/- THE CELL 'sum', in the pinned program and in every row, IS THE sha256 OF THE DUMP (.gsa) THAT YtcbhfaijlmckbaaProg.lean LOADS. Nothing in Lean hashes anything: it is a label: what it is worth is what the hold of that sum in a sandbox is worth. -/
noncomputable def Try.pinned : Pinned := { name := "ytcbhfaijlmckbaa", sum := "310dc1980dcde51c517f6ef563700f94840d5f1a29d20978fe4909b6a951b27a", checked := Try.checked }
namespace Rows
def none {H : Type} : Left H := { results := [], args := [] }

/-- 'laws.FnRenumber': WHATEVER THE INPUT: true; the input reads as it did. -/
def fnRenumberSpec : ChangeSpec := { name := "fnRenumber", fn := fun _ => fun
  | [d] => { results := [.lit (.bool true)], args := [d] }
  | _ => none }
def fnRenumberRow : OpenClaim := { program := "ytcbhfaijlmckbaa", sum := "310dc1980dcde51c517f6ef563700f94840d5f1a29d20978fe4909b6a951b27a", func := "loop.example/namedflags/laws.FnRenumber", spec := "fnRenumber", unfollowed := true, recurses := true, apart := false }
def FnRenumberSaid : Prop := fnRenumberRow.holds Try.pinned (OpenSpec.ofChange fnRenumberSpec)

/-- ITS FALSE NEIGHBOUR: 'it returns false'. Refute it at one input. -/
def fnRenumberWrong : ChangeSpec := { name := "fnRenumber", fn := fun _ => fun
  | [d] => { results := [.lit (.bool false)], args := [d] }
  | _ => none }
def FnRenumberWrongFalsely : Prop := fnRenumberRow.holds Try.pinned (OpenSpec.ofChange fnRenumberWrong)

/-- 'laws.FnMembersIn': WHATEVER THE INPUT: true; the input reads as it did. -/
def fnMembersInSpec : ChangeSpec := { name := "fnMembersIn", fn := fun _ => fun
  | [d] => { results := [.lit (.bool true)], args := [d] }
  | _ => none }
def fnMembersInRow : OpenClaim := { program := "ytcbhfaijlmckbaa", sum := "310dc1980dcde51c517f6ef563700f94840d5f1a29d20978fe4909b6a951b27a", func := "loop.example/namedflags/laws.FnMembersIn", spec := "fnMembersIn", unfollowed := true, recurses := true, apart := false }
def FnMembersInSaid : Prop := fnMembersInRow.holds Try.pinned (OpenSpec.ofChange fnMembersInSpec)

/-- ITS FALSE NEIGHBOUR: 'it returns false'. Refute it at one input. -/
def fnMembersInWrong : ChangeSpec := { name := "fnMembersIn", fn := fun _ => fun
  | [d] => { results := [.lit (.bool false)], args := [d] }
  | _ => none }
def FnMembersInWrongFalsely : Prop := fnMembersInRow.holds Try.pinned (OpenSpec.ofChange fnMembersInWrong)

/-- 'laws.FnSetOf': WHATEVER THE INPUT: true; the input reads as it did. -/
def fnSetOfSpec : ChangeSpec := { name := "fnSetOf", fn := fun _ => fun
  | [d] => { results := [.lit (.bool true)], args := [d] }
  | _ => none }
def fnSetOfRow : OpenClaim := { program := "ytcbhfaijlmckbaa", sum := "310dc1980dcde51c517f6ef563700f94840d5f1a29d20978fe4909b6a951b27a", func := "loop.example/namedflags/laws.FnSetOf", spec := "fnSetOf", unfollowed := true, recurses := true, apart := false }
def FnSetOfSaid : Prop := fnSetOfRow.holds Try.pinned (OpenSpec.ofChange fnSetOfSpec)

/-- ITS FALSE NEIGHBOUR: 'it returns false'. Refute it at one input. -/
def fnSetOfWrong : ChangeSpec := { name := "fnSetOf", fn := fun _ => fun
  | [d] => { results := [.lit (.bool false)], args := [d] }
  | _ => none }
def FnSetOfWrongFalsely : Prop := fnSetOfRow.holds Try.pinned (OpenSpec.ofChange fnSetOfWrong)

/-- 'laws.FnByName': WHATEVER THE INPUT: true; the input reads as it did. -/
def fnByNameSpec : ChangeSpec := { name := "fnByName", fn := fun _ => fun
  | [d] => { results := [.lit (.bool true)], args := [d] }
  | _ => none }
def fnByNameRow : OpenClaim := { program := "ytcbhfaijlmckbaa", sum := "310dc1980dcde51c517f6ef563700f94840d5f1a29d20978fe4909b6a951b27a", func := "loop.example/namedflags/laws.FnByName", spec := "fnByName", apart := false }
def FnByNameSaid : Prop := fnByNameRow.holds Try.pinned (OpenSpec.ofChange fnByNameSpec)

/-- ITS FALSE NEIGHBOUR: 'it returns false'. Refute it at one input. -/
def fnByNameWrong : ChangeSpec := { name := "fnByName", fn := fun _ => fun
  | [d] => { results := [.lit (.bool false)], args := [d] }
  | _ => none }
def FnByNameWrongFalsely : Prop := fnByNameRow.holds Try.pinned (OpenSpec.ofChange fnByNameWrong)

/-- 'laws.FnByValue': WHATEVER THE INPUT: true; the input reads as it did. -/
def fnByValueSpec : ChangeSpec := { name := "fnByValue", fn := fun _ => fun
  | [d] => { results := [.lit (.bool true)], args := [d] }
  | _ => none }
def fnByValueRow : OpenClaim := { program := "ytcbhfaijlmckbaa", sum := "310dc1980dcde51c517f6ef563700f94840d5f1a29d20978fe4909b6a951b27a", func := "loop.example/namedflags/laws.FnByValue", spec := "fnByValue", apart := false }
def FnByValueSaid : Prop := fnByValueRow.holds Try.pinned (OpenSpec.ofChange fnByValueSpec)

/-- ITS FALSE NEIGHBOUR: 'it returns false'. Refute it at one input. -/
def fnByValueWrong : ChangeSpec := { name := "fnByValue", fn := fun _ => fun
  | [d] => { results := [.lit (.bool false)], args := [d] }
  | _ => none }
def FnByValueWrongFalsely : Prop := fnByValueRow.holds Try.pinned (OpenSpec.ofChange fnByValueWrong)

/-- 'laws.FnByValueOld': WHATEVER THE INPUT: true; the input reads as it did. -/
def fnByValueOldSpec : ChangeSpec := { name := "fnByValueOld", fn := fun _ => fun
  | [d] => { results := [.lit (.bool true)], args := [d] }
  | _ => none }
def fnByValueOldRow : OpenClaim := { program := "ytcbhfaijlmckbaa", sum := "310dc1980dcde51c517f6ef563700f94840d5f1a29d20978fe4909b6a951b27a", func := "loop.example/namedflags/laws.FnByValueOld", spec := "fnByValueOld", apart := false }
def FnByValueOldSaid : Prop := fnByValueOldRow.holds Try.pinned (OpenSpec.ofChange fnByValueOldSpec)

/-- ITS FALSE NEIGHBOUR: 'it returns false'. Refute it at one input. -/
def fnByValueOldWrong : ChangeSpec := { name := "fnByValueOld", fn := fun _ => fun
  | [d] => { results := [.lit (.bool false)], args := [d] }
  | _ => none }
def FnByValueOldWrongFalsely : Prop := fnByValueOldRow.holds Try.pinned (OpenSpec.ofChange fnByValueOldWrong)

/-- 'laws.FnLookUp': WHATEVER THE INPUT: true; the input reads as it did. -/
def fnLookUpSpec : ChangeSpec := { name := "fnLookUp", fn := fun _ => fun
  | [d] => { results := [.lit (.bool true)], args := [d] }
  | _ => none }
def fnLookUpRow : OpenClaim := { program := "ytcbhfaijlmckbaa", sum := "310dc1980dcde51c517f6ef563700f94840d5f1a29d20978fe4909b6a951b27a", func := "loop.example/namedflags/laws.FnLookUp", spec := "fnLookUp", unfollowed := true, recurses := true, apart := false }
def FnLookUpSaid : Prop := fnLookUpRow.holds Try.pinned (OpenSpec.ofChange fnLookUpSpec)

/-- ITS FALSE NEIGHBOUR: 'it returns false'. Refute it at one input. -/
def fnLookUpWrong : ChangeSpec := { name := "fnLookUp", fn := fun _ => fun
  | [d] => { results := [.lit (.bool false)], args := [d] }
  | _ => none }
def FnLookUpWrongFalsely : Prop := fnLookUpRow.holds Try.pinned (OpenSpec.ofChange fnLookUpWrong)

/-- 'laws.FnRevalue': WHATEVER THE INPUT: true; the input reads as it did. -/
def fnRevalueSpec : ChangeSpec := { name := "fnRevalue", fn := fun _ => fun
  | [d] => { results := [.lit (.bool true)], args := [d] }
  | _ => none }
def fnRevalueRow : OpenClaim := { program := "ytcbhfaijlmckbaa", sum := "310dc1980dcde51c517f6ef563700f94840d5f1a29d20978fe4909b6a951b27a", func := "loop.example/namedflags/laws.FnRevalue", spec := "fnRevalue", unfollowed := true, recurses := true, apart := false }
def FnRevalueSaid : Prop := fnRevalueRow.holds Try.pinned (OpenSpec.ofChange fnRevalueSpec)

/-- ITS FALSE NEIGHBOUR: 'it returns false'. Refute it at one input. -/
def fnRevalueWrong : ChangeSpec := { name := "fnRevalue", fn := fun _ => fun
  | [d] => { results := [.lit (.bool false)], args := [d] }
  | _ => none }
def FnRevalueWrongFalsely : Prop := fnRevalueRow.holds Try.pinned (OpenSpec.ofChange fnRevalueWrong)

/-- 'laws.FnConvertValue': WHATEVER THE INPUT: true; the input reads as it did. -/
def fnConvertValueSpec : ChangeSpec := { name := "fnConvertValue", fn := fun _ => fun
  | [d] => { results := [.lit (.bool true)], args := [d] }
  | _ => none }
def fnConvertValueRow : OpenClaim := { program := "ytcbhfaijlmckbaa", sum := "310dc1980dcde51c517f6ef563700f94840d5f1a29d20978fe4909b6a951b27a", func := "loop.example/namedflags/laws.FnConvertValue", spec := "fnConvertValue", unfollowed := true, recurses := true, apart := false }
def FnConvertValueSaid : Prop := fnConvertValueRow.holds Try.pinned (OpenSpec.ofChange fnConvertValueSpec)

/-- ITS FALSE NEIGHBOUR: 'it returns false'. Refute it at one input. -/
def fnConvertValueWrong : ChangeSpec := { name := "fnConvertValue", fn := fun _ => fun
  | [d] => { results := [.lit (.bool false)], args := [d] }
  | _ => none }
def FnConvertValueWrongFalsely : Prop := fnConvertValueRow.holds Try.pinned (OpenSpec.ofChange fnConvertValueWrong)

/-- 'laws.FnConvertValueOr': WHATEVER THE INPUT: true; the input reads as it did. -/
def fnConvertValueOrSpec : ChangeSpec := { name := "fnConvertValueOr", fn := fun _ => fun
  | [d] => { results := [.lit (.bool true)], args := [d] }
  | _ => none }
def fnConvertValueOrRow : OpenClaim := { program := "ytcbhfaijlmckbaa", sum := "310dc1980dcde51c517f6ef563700f94840d5f1a29d20978fe4909b6a951b27a", func := "loop.example/namedflags/laws.FnConvertValueOr", spec := "fnConvertValueOr", unfollowed := true, recurses := true, apart := false }
def FnConvertValueOrSaid : Prop := fnConvertValueOrRow.holds Try.pinned (OpenSpec.ofChange fnConvertValueOrSpec)

/-- ITS FALSE NEIGHBOUR: 'it returns false'. Refute it at one input. -/
def fnConvertValueOrWrong : ChangeSpec := { name := "fnConvertValueOr", fn := fun _ => fun
  | [d] => { results := [.lit (.bool false)], args := [d] }
  | _ => none }
def FnConvertValueOrWrongFalsely : Prop := fnConvertValueOrRow.holds Try.pinned (OpenSpec.ofChange fnConvertValueOrWrong)

/-- 'laws.FnTableOf': WHATEVER THE INPUT: true; the input reads as it did. -/
def fnTableOfSpec : ChangeSpec := { name := "fnTableOf", fn := fun _ => fun
  | [d] => { results := [.lit (.bool true)], args := [d] }
  | _ => none }
def fnTableOfRow : OpenClaim := { program := "ytcbhfaijlmckbaa", sum := "310dc1980dcde51c517f6ef563700f94840d5f1a29d20978fe4909b6a951b27a", func := "loop.example/namedflags/laws.FnTableOf", spec := "fnTableOf", unfollowed := true, recurses := true, apart := false }
def FnTableOfSaid : Prop := fnTableOfRow.holds Try.pinned (OpenSpec.ofChange fnTableOfSpec)

/-- ITS FALSE NEIGHBOUR: 'it returns false'. Refute it at one input. -/
def fnTableOfWrong : ChangeSpec := { name := "fnTableOf", fn := fun _ => fun
  | [d] => { results := [.lit (.bool false)], args := [d] }
  | _ => none }
def FnTableOfWrongFalsely : Prop := fnTableOfRow.holds Try.pinned (OpenSpec.ofChange fnTableOfWrong)

/- THE SECOND FORM. 'bulk': how many values and letters a reading holds, each counted each time it is reached (what is shared counts as often as it is met; a slice's spare places count too). A statement '..UptoSaid' is the law's where the arguments, and the package variables that the reading takes, are together of bulk at most 1048576: NARROWER than '..Said'. Prove '..Said' where nothing that the law and all that it calls make is longer than what came in: it says more and counts as full. Else prove '..UptoSaid'. A law counts once. -/
mutual
def uptoBulk {H : Type} : DataW H → Nat
  | .lit (.string bytes) => bytes.length + 1
  | .lit _ => 1
  | .nil => 1
  | .ptr d => uptoBulk d + 1
  | .slice elems spare => uptoBulkAll elems + uptoBulkAll spare + 1
  | .agg parts => uptoBulkAll parts + 1
  | .iface _ d => uptoBulk d + 1
  | .map entries => uptoBulkEntries entries + 1
  | .held _ => 1
def uptoBulkAll {H : Type} : List (DataW H) → Nat
  | [] => 0
  | d :: r => uptoBulk d + uptoBulkAll r
def uptoBulkEntries {H : Type} : List (Lit × DataW H) → Nat
  | [] => 0
  | x :: r => uptoBulkEntry x + uptoBulkEntries r
def uptoBulkEntry {H : Type} : Lit × DataW H → Nat
  | (.string bytes, d) => bytes.length + uptoBulk d + 1
  | (_, d) => uptoBulk d + 1
 end
def uptoSmall : (H : Type) → List (DataW H) → Bool := fun _ ds => decide (uptoBulkAll ds ≤ 1048576)
def OpenSpec.upto (s : _root_.Go.ChangeSpec) : _root_.Go.OpenSpec := { _root_.Go.OpenSpec.ofChange s with cond := some uptoSmall }

/-- 'laws.FnRenumber', WHERE WHAT IT READS IS OF BULK AT MOST 1048576: true; the input reads as it did. -/
def fnRenumberUptoRow : OpenClaim := { program := "ytcbhfaijlmckbaa", sum := "310dc1980dcde51c517f6ef563700f94840d5f1a29d20978fe4909b6a951b27a", func := "loop.example/namedflags/laws.FnRenumber", spec := "fnRenumber", unfollowed := true, recurses := true, apart := false, narrowed := true }
def FnRenumberUptoSaid : Prop := fnRenumberUptoRow.holds Try.pinned (OpenSpec.upto fnRenumberSpec)

/-- 'laws.FnMembersIn', WHERE WHAT IT READS IS OF BULK AT MOST 1048576: true; the input reads as it did. -/
def fnMembersInUptoRow : OpenClaim := { program := "ytcbhfaijlmckbaa", sum := "310dc1980dcde51c517f6ef563700f94840d5f1a29d20978fe4909b6a951b27a", func := "loop.example/namedflags/laws.FnMembersIn", spec := "fnMembersIn", unfollowed := true, recurses := true, apart := false, narrowed := true }
def FnMembersInUptoSaid : Prop := fnMembersInUptoRow.holds Try.pinned (OpenSpec.upto fnMembersInSpec)

/-- 'laws.FnSetOf', WHERE WHAT IT READS IS OF BULK AT MOST 1048576: true; the input reads as it did. -/
def fnSetOfUptoRow : OpenClaim := { program := "ytcbhfaijlmckbaa", sum := "310dc1980dcde51c517f6ef563700f94840d5f1a29d20978fe4909b6a951b27a", func := "loop.example/namedflags/laws.FnSetOf", spec := "fnSetOf", unfollowed := true, recurses := true, apart := false, narrowed := true }
def FnSetOfUptoSaid : Prop := fnSetOfUptoRow.holds Try.pinned (OpenSpec.upto fnSetOfSpec)

/-- 'laws.FnByName', WHERE WHAT IT READS IS OF BULK AT MOST 1048576: true; the input reads as it did. -/
def fnByNameUptoRow : OpenClaim := { program := "ytcbhfaijlmckbaa", sum := "310dc1980dcde51c517f6ef563700f94840d5f1a29d20978fe4909b6a951b27a", func := "loop.example/namedflags/laws.FnByName", spec := "fnByName", apart := false, narrowed := true }
def FnByNameUptoSaid : Prop := fnByNameUptoRow.holds Try.pinned (OpenSpec.upto fnByNameSpec)

/-- 'laws.FnByValue', WHERE WHAT IT READS IS OF BULK AT MOST 1048576: true; the input reads as it did. -/
def fnByValueUptoRow : OpenClaim := { program := "ytcbhfaijlmckbaa", sum := "310dc1980dcde51c517f6ef563700f94840d5f1a29d20978fe4909b6a951b27a", func := "loop.example/namedflags/laws.FnByValue", spec := "fnByValue", apart := false, narrowed := true }
def FnByValueUptoSaid : Prop := fnByValueUptoRow.holds Try.pinned (OpenSpec.upto fnByValueSpec)

/-- 'laws.FnByValueOld', WHERE WHAT IT READS IS OF BULK AT MOST 1048576: true; the input reads as it did. -/
def fnByValueOldUptoRow : OpenClaim := { program := "ytcbhfaijlmckbaa", sum := "310dc1980dcde51c517f6ef563700f94840d5f1a29d20978fe4909b6a951b27a", func := "loop.example/namedflags/laws.FnByValueOld", spec := "fnByValueOld", apart := false, narrowed := true }
def FnByValueOldUptoSaid : Prop := fnByValueOldUptoRow.holds Try.pinned (OpenSpec.upto fnByValueOldSpec)

/-- 'laws.FnLookUp', WHERE WHAT IT READS IS OF BULK AT MOST 1048576: true; the input reads as it did. -/
def fnLookUpUptoRow : OpenClaim := { program := "ytcbhfaijlmckbaa", sum := "310dc1980dcde51c517f6ef563700f94840d5f1a29d20978fe4909b6a951b27a", func := "loop.example/namedflags/laws.FnLookUp", spec := "fnLookUp", unfollowed := true, recurses := true, apart := false, narrowed := true }
def FnLookUpUptoSaid : Prop := fnLookUpUptoRow.holds Try.pinned (OpenSpec.upto fnLookUpSpec)

/-- 'laws.FnRevalue', WHERE WHAT IT READS IS OF BULK AT MOST 1048576: true; the input reads as it did. -/
def fnRevalueUptoRow : OpenClaim := { program := "ytcbhfaijlmckbaa", sum := "310dc1980dcde51c517f6ef563700f94840d5f1a29d20978fe4909b6a951b27a", func := "loop.example/namedflags/laws.FnRevalue", spec := "fnRevalue", unfollowed := true, recurses := true, apart := false, narrowed := true }
def FnRevalueUptoSaid : Prop := fnRevalueUptoRow.holds Try.pinned (OpenSpec.upto fnRevalueSpec)

/-- 'laws.FnConvertValue', WHERE WHAT IT READS IS OF BULK AT MOST 1048576: true; the input reads as it did. -/
def fnConvertValueUptoRow : OpenClaim := { program := "ytcbhfaijlmckbaa", sum := "310dc1980dcde51c517f6ef563700f94840d5f1a29d20978fe4909b6a951b27a", func := "loop.example/namedflags/laws.FnConvertValue", spec := "fnConvertValue", unfollowed := true, recurses := true, apart := false, narrowed := true }
def FnConvertValueUptoSaid : Prop := fnConvertValueUptoRow.holds Try.pinned (OpenSpec.upto fnConvertValueSpec)

/-- 'laws.FnConvertValueOr', WHERE WHAT IT READS IS OF BULK AT MOST 1048576: true; the input reads as it did. -/
def fnConvertValueOrUptoRow : OpenClaim := { program := "ytcbhfaijlmckbaa", sum := "310dc1980dcde51c517f6ef563700f94840d5f1a29d20978fe4909b6a951b27a", func := "loop.example/namedflags/laws.FnConvertValueOr", spec := "fnConvertValueOr", unfollowed := true, recurses := true, apart := false, narrowed := true }
def FnConvertValueOrUptoSaid : Prop := fnConvertValueOrUptoRow.holds Try.pinned (OpenSpec.upto fnConvertValueOrSpec)

/-- 'laws.FnTableOf', WHERE WHAT IT READS IS OF BULK AT MOST 1048576: true; the input reads as it did. -/
def fnTableOfUptoRow : OpenClaim := { program := "ytcbhfaijlmckbaa", sum := "310dc1980dcde51c517f6ef563700f94840d5f1a29d20978fe4909b6a951b27a", func := "loop.example/namedflags/laws.FnTableOf", spec := "fnTableOf", unfollowed := true, recurses := true, apart := false, narrowed := true }
def FnTableOfUptoSaid : Prop := fnTableOfUptoRow.holds Try.pinned (OpenSpec.upto fnTableOfSpec)

end Rows
end Go.Proofs.Ytcbhfaijlmckbaa
