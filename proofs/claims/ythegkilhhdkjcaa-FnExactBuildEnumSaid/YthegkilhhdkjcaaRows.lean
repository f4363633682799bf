/-
  No cell of these rows narrows 'for every input' (looked for: loops, veiled, ifaces, maps, wideKeys, modest, calm, conditions, laid).
  DERIVED. THE GIVEN ROWS OF THIS SEAT. 11 by the template 'for every input the law returns true; each argument reads behind the call as it read before'; 0 by the template 'total and deterministic' (their statements: YthegkilhhdkjcaaTotals.lean).
  GIVEN WITH THE SEED: the statements are not yours to turn. If you find one false, say at which input.
  Laid BY PROGRAM, IN A SANDBOX (cutbox-rows.mjs): the forced cells as the released guide's own fill.sh prints them over the translation 06c1ca4e122a09ff… (all of the seat's roots in one cut). By AI agents, Wed Nov 11 2026. No macro, syntax, notation, axiom, sorry.
-/
import Derived.Test.YthegkilhhdkjcaaChecked
import GoSem.Claim
import GoSem.ClaimJoined
import GoSem.ClaimMapViews
import Derived.JoinedTies
import Derived.KernelRfl
namespace Go.Proofs.Ythegkilhhdkjcaa
/- THE CELL 'sum', in the pinned program and in every row, IS THE sha256 OF THE DUMP (.gsa) THAT YthegkilhhdkjcaaProg.lean LOADS. Nothing in Lean hashes anything: it is a label: what it is worth is what the hold of that sum in a sandbox is worth. -/
noncomputable def Try.pinned : Pinned := { name := "ythegkilhhdkjcaa", sum := "06c1ca4e122a09ff44f429639e4d23b55def21d65b37d8e93ea76e8f4011dbc9", checked := Try.checked }
namespace Rows
def none {H : Type} : Left H := { results := [], args := [] }

/-- 'laws.FnExactValidName': WHATEVER THE INPUT: true; the input reads as it did. -/
def fnExactValidNameSpec : ChangeSpec := { name := "fnExactValidName", fn := fun _ => fun
  | [d] => { results := [.lit (.bool true)], args := [d] }
  | _ => none }
def fnExactValidNameRow : OpenClaim := { program := "ythegkilhhdkjcaa", sum := "06c1ca4e122a09ff44f429639e4d23b55def21d65b37d8e93ea76e8f4011dbc9", func := "loop.example/namedflags/laws.FnExactValidName", spec := "fnExactValidName", apart := false }
def FnExactValidNameSaid : Prop := fnExactValidNameRow.holds Try.pinned (OpenSpec.ofChange fnExactValidNameSpec)

/-- ITS FALSE NEIGHBOUR: 'it returns false'. Refute it at one input. -/
def fnExactValidNameWrong : ChangeSpec := { name := "fnExactValidName", fn := fun _ => fun
  | [d] => { results := [.lit (.bool false)], args := [d] }
  | _ => none }
def FnExactValidNameWrongFalsely : Prop := fnExactValidNameRow.holds Try.pinned (OpenSpec.ofChange fnExactValidNameWrong)

/-- 'laws.FnExactValidEnum': WHATEVER THE INPUT: true; the input reads as it did. -/
def fnExactValidEnumSpec : ChangeSpec := { name := "fnExactValidEnum", fn := fun _ => fun
  | [d] => { results := [.lit (.bool true)], args := [d] }
  | _ => none }
def fnExactValidEnumRow : OpenClaim := { program := "ythegkilhhdkjcaa", sum := "06c1ca4e122a09ff44f429639e4d23b55def21d65b37d8e93ea76e8f4011dbc9", func := "loop.example/namedflags/laws.FnExactValidEnum", spec := "fnExactValidEnum", apart := false }
def FnExactValidEnumSaid : Prop := fnExactValidEnumRow.holds Try.pinned (OpenSpec.ofChange fnExactValidEnumSpec)

/-- ITS FALSE NEIGHBOUR: 'it returns false'. Refute it at one input. -/
def fnExactValidEnumWrong : ChangeSpec := { name := "fnExactValidEnum", fn := fun _ => fun
  | [d] => { results := [.lit (.bool false)], args := [d] }
  | _ => none }
def FnExactValidEnumWrongFalsely : Prop := fnExactValidEnumRow.holds Try.pinned (OpenSpec.ofChange fnExactValidEnumWrong)

/-- 'laws.FnExactValueOf': WHATEVER THE INPUT: true; the input reads as it did. -/
def fnExactValueOfSpec : ChangeSpec := { name := "fnExactValueOf", fn := fun _ => fun
  | [d1, d2] => { results := [.lit (.bool true)], args := [d1, d2] }
  | _ => none }
def fnExactValueOfRow : OpenClaim := { program := "ythegkilhhdkjcaa", sum := "06c1ca4e122a09ff44f429639e4d23b55def21d65b37d8e93ea76e8f4011dbc9", func := "loop.example/namedflags/laws.FnExactValueOf", spec := "fnExactValueOf", apart := false }
def FnExactValueOfSaid : Prop := fnExactValueOfRow.holds Try.pinned (OpenSpec.ofChange fnExactValueOfSpec)

/-- ITS FALSE NEIGHBOUR: 'it returns false'. Refute it at one input. -/
def fnExactValueOfWrong : ChangeSpec := { name := "fnExactValueOf", fn := fun _ => fun
  | [d1, d2] => { results := [.lit (.bool false)], args := [d1, d2] }
  | _ => none }
def FnExactValueOfWrongFalsely : Prop := fnExactValueOfRow.holds Try.pinned (OpenSpec.ofChange fnExactValueOfWrong)

/-- 'laws.FnExactNameOf': WHATEVER THE INPUT: true; the input reads as it did. -/
def fnExactNameOfSpec : ChangeSpec := { name := "fnExactNameOf", fn := fun _ => fun
  | [d1, d2] => { results := [.lit (.bool true)], args := [d1, d2] }
  | _ => none }
def fnExactNameOfRow : OpenClaim := { program := "ythegkilhhdkjcaa", sum := "06c1ca4e122a09ff44f429639e4d23b55def21d65b37d8e93ea76e8f4011dbc9", func := "loop.example/namedflags/laws.FnExactNameOf", spec := "fnExactNameOf", apart := false }
def FnExactNameOfSaid : Prop := fnExactNameOfRow.holds Try.pinned (OpenSpec.ofChange fnExactNameOfSpec)

/-- ITS FALSE NEIGHBOUR: 'it returns false'. Refute it at one input. -/
def fnExactNameOfWrong : ChangeSpec := { name := "fnExactNameOf", fn := fun _ => fun
  | [d1, d2] => { results := [.lit (.bool false)], args := [d1, d2] }
  | _ => none }
def FnExactNameOfWrongFalsely : Prop := fnExactNameOfRow.holds Try.pinned (OpenSpec.ofChange fnExactNameOfWrong)

/-- 'laws.FnExactIsUnique': WHATEVER THE INPUT: true; the input reads as it did. -/
def fnExactIsUniqueSpec : ChangeSpec := { name := "fnExactIsUnique", fn := fun _ => fun
  | [d] => { results := [.lit (.bool true)], args := [d] }
  | _ => none }
def fnExactIsUniqueRow : OpenClaim := { program := "ythegkilhhdkjcaa", sum := "06c1ca4e122a09ff44f429639e4d23b55def21d65b37d8e93ea76e8f4011dbc9", func := "loop.example/namedflags/laws.FnExactIsUnique", spec := "fnExactIsUnique", apart := false }
def FnExactIsUniqueSaid : Prop := fnExactIsUniqueRow.holds Try.pinned (OpenSpec.ofChange fnExactIsUniqueSpec)

/-- ITS FALSE NEIGHBOUR: 'it returns false'. Refute it at one input. -/
def fnExactIsUniqueWrong : ChangeSpec := { name := "fnExactIsUnique", fn := fun _ => fun
  | [d] => { results := [.lit (.bool false)], args := [d] }
  | _ => none }
def FnExactIsUniqueWrongFalsely : Prop := fnExactIsUniqueRow.holds Try.pinned (OpenSpec.ofChange fnExactIsUniqueWrong)

/-- 'laws.FnExactRankOf': WHATEVER THE INPUT: true; the input reads as it did. -/
def fnExactRankOfSpec : ChangeSpec := { name := "fnExactRankOf", fn := fun _ => fun
  | [d1, d2] => { results := [.lit (.bool true)], args := [d1, d2] }
  | _ => none }
def fnExactRankOfRow : OpenClaim := { program := "ythegkilhhdkjcaa", sum := "06c1ca4e122a09ff44f429639e4d23b55def21d65b37d8e93ea76e8f4011dbc9", func := "loop.example/namedflags/laws.FnExactRankOf", spec := "fnExactRankOf", apart := false }
def FnExactRankOfSaid : Prop := fnExactRankOfRow.holds Try.pinned (OpenSpec.ofChange fnExactRankOfSpec)

/-- ITS FALSE NEIGHBOUR: 'it returns false'. Refute it at one input. -/
def fnExactRankOfWrong : ChangeSpec := { name := "fnExactRankOf", fn := fun _ => fun
  | [d1, d2] => { results := [.lit (.bool false)], args := [d1, d2] }
  | _ => none }
def FnExactRankOfWrongFalsely : Prop := fnExactRankOfRow.holds Try.pinned (OpenSpec.ofChange fnExactRankOfWrong)

/-- 'laws.FnExactNextMember': WHATEVER THE INPUT: true; the input reads as it did. -/
def fnExactNextMemberSpec : ChangeSpec := { name := "fnExactNextMember", fn := fun _ => fun
  | [d1, d2] => { results := [.lit (.bool true)], args := [d1, d2] }
  | _ => none }
def fnExactNextMemberRow : OpenClaim := { program := "ythegkilhhdkjcaa", sum := "06c1ca4e122a09ff44f429639e4d23b55def21d65b37d8e93ea76e8f4011dbc9", func := "loop.example/namedflags/laws.FnExactNextMember", spec := "fnExactNextMember", apart := false }
def FnExactNextMemberSaid : Prop := fnExactNextMemberRow.holds Try.pinned (OpenSpec.ofChange fnExactNextMemberSpec)

/-- ITS FALSE NEIGHBOUR: 'it returns false'. Refute it at one input. -/
def fnExactNextMemberWrong : ChangeSpec := { name := "fnExactNextMember", fn := fun _ => fun
  | [d1, d2] => { results := [.lit (.bool false)], args := [d1, d2] }
  | _ => none }
def FnExactNextMemberWrongFalsely : Prop := fnExactNextMemberRow.holds Try.pinned (OpenSpec.ofChange fnExactNextMemberWrong)

/-- 'laws.FnExactMembersOf': WHATEVER THE INPUT: true; the input reads as it did. -/
def fnExactMembersOfSpec : ChangeSpec := { name := "fnExactMembersOf", fn := fun _ => fun
  | [d] => { results := [.lit (.bool true)], args := [d] }
  | _ => none }
def fnExactMembersOfRow : OpenClaim := { program := "ythegkilhhdkjcaa", sum := "06c1ca4e122a09ff44f429639e4d23b55def21d65b37d8e93ea76e8f4011dbc9", func := "loop.example/namedflags/laws.FnExactMembersOf", spec := "fnExactMembersOf", apart := false }
def FnExactMembersOfSaid : Prop := fnExactMembersOfRow.holds Try.pinned (OpenSpec.ofChange fnExactMembersOfSpec)

/-- ITS FALSE NEIGHBOUR: 'it returns false'. Refute it at one input. -/
def fnExactMembersOfWrong : ChangeSpec := { name := "fnExactMembersOf", fn := fun _ => fun
  | [d] => { results := [.lit (.bool false)], args := [d] }
  | _ => none }
def FnExactMembersOfWrongFalsely : Prop := fnExactMembersOfRow.holds Try.pinned (OpenSpec.ofChange fnExactMembersOfWrong)

/-- 'laws.FnExactOtherNames': WHATEVER THE INPUT: true; the input reads as it did. -/
def fnExactOtherNamesSpec : ChangeSpec := { name := "fnExactOtherNames", fn := fun _ => fun
  | [d1, d2] => { results := [.lit (.bool true)], args := [d1, d2] }
  | _ => none }
def fnExactOtherNamesRow : OpenClaim := { program := "ythegkilhhdkjcaa", sum := "06c1ca4e122a09ff44f429639e4d23b55def21d65b37d8e93ea76e8f4011dbc9", func := "loop.example/namedflags/laws.FnExactOtherNames", spec := "fnExactOtherNames", apart := false }
def FnExactOtherNamesSaid : Prop := fnExactOtherNamesRow.holds Try.pinned (OpenSpec.ofChange fnExactOtherNamesSpec)

/-- ITS FALSE NEIGHBOUR: 'it returns false'. Refute it at one input. -/
def fnExactOtherNamesWrong : ChangeSpec := { name := "fnExactOtherNames", fn := fun _ => fun
  | [d1, d2] => { results := [.lit (.bool false)], args := [d1, d2] }
  | _ => none }
def FnExactOtherNamesWrongFalsely : Prop := fnExactOtherNamesRow.holds Try.pinned (OpenSpec.ofChange fnExactOtherNamesWrong)

/-- 'laws.FnExactGapsOf': WHATEVER THE INPUT: true; the input reads as it did. -/
def fnExactGapsOfSpec : ChangeSpec := { name := "fnExactGapsOf", fn := fun _ => fun
  | [d] => { results := [.lit (.bool true)], args := [d] }
  | _ => none }
def fnExactGapsOfRow : OpenClaim := { program := "ythegkilhhdkjcaa", sum := "06c1ca4e122a09ff44f429639e4d23b55def21d65b37d8e93ea76e8f4011dbc9", func := "loop.example/namedflags/laws.FnExactGapsOf", spec := "fnExactGapsOf", apart := false }
def FnExactGapsOfSaid : Prop := fnExactGapsOfRow.holds Try.pinned (OpenSpec.ofChange fnExactGapsOfSpec)

/-- ITS FALSE NEIGHBOUR: 'it returns false'. Refute it at one input. -/
def fnExactGapsOfWrong : ChangeSpec := { name := "fnExactGapsOf", fn := fun _ => fun
  | [d] => { results := [.lit (.bool false)], args := [d] }
  | _ => none }
def FnExactGapsOfWrongFalsely : Prop := fnExactGapsOfRow.holds Try.pinned (OpenSpec.ofChange fnExactGapsOfWrong)

/-- 'laws.FnExactBuildEnum': WHATEVER THE INPUT: true; the input reads as it did. -/
def fnExactBuildEnumSpec : ChangeSpec := { name := "fnExactBuildEnum", fn := fun _ => fun
  | [d] => { results := [.lit (.bool true)], args := [d] }
  | _ => none }
def fnExactBuildEnumRow : OpenClaim := { program := "ythegkilhhdkjcaa", sum := "06c1ca4e122a09ff44f429639e4d23b55def21d65b37d8e93ea76e8f4011dbc9", func := "loop.example/namedflags/laws.FnExactBuildEnum", spec := "fnExactBuildEnum", apart := false }
def FnExactBuildEnumSaid : Prop := fnExactBuildEnumRow.holds Try.pinned (OpenSpec.ofChange fnExactBuildEnumSpec)

/-- ITS FALSE NEIGHBOUR: 'it returns false'. Refute it at one input. -/
def fnExactBuildEnumWrong : ChangeSpec := { name := "fnExactBuildEnum", fn := fun _ => fun
  | [d] => { results := [.lit (.bool false)], args := [d] }
  | _ => none }
def FnExactBuildEnumWrongFalsely : Prop := fnExactBuildEnumRow.holds Try.pinned (OpenSpec.ofChange fnExactBuildEnumWrong)

/- THE SECOND FORM. 'bulk': how many values and letters a reading holds, each counted each time it is reached (what is shared counts as often as it is met; a slice's spare places count too). A statement '..UptoSaid' is the law's where the arguments, and the package variables that the reading takes, are together of bulk at most 1048576: NARROWER than '..Said'. Prove '..Said' where nothing that the law and all that it calls make is longer than what came in: it says more and counts as full. Else prove '..UptoSaid'. A law counts once. -/
mutual
def uptoBulk {H : Type} : DataW H → Nat
  | .lit (.string bytes) => bytes.length + 1
  | .lit _ => 1
  | .nil => 1
  | .ptr d => uptoBulk d + 1
  | .slice elems spare => uptoBulkAll elems + uptoBulkAll spare + 1
  | .agg parts => uptoBulkAll parts + 1
  | .iface _ d => uptoBulk d + 1
  | .map entries => uptoBulkEntries entries + 1
  | .held _ => 1
def uptoBulkAll {H : Type} : List (DataW H) → Nat
  | [] => 0
  | d :: r => uptoBulk d + uptoBulkAll r
def uptoBulkEntries {H : Type} : List (Lit × DataW H) → Nat
  | [] => 0
  | x :: r => uptoBulkEntry x + uptoBulkEntries r
def uptoBulkEntry {H : Type} : Lit × DataW H → Nat
  | (.string bytes, d) => bytes.length + uptoBulk d + 1
  | (_, d) => uptoBulk d + 1
 end
def uptoSmall : (H : Type) → List (DataW H) → Bool := fun _ ds => decide (uptoBulkAll ds ≤ 1048576)
def OpenSpec.upto (s : _root_.Go.ChangeSpec) : _root_.Go.OpenSpec := { _root_.Go.OpenSpec.ofChange s with cond := some uptoSmall }

/-- 'laws.FnExactValidName', WHERE WHAT IT READS IS OF BULK AT MOST 1048576: true; the input reads as it did. -/
def fnExactValidNameUptoRow : OpenClaim := { program := "ythegkilhhdkjcaa", sum := "06c1ca4e122a09ff44f429639e4d23b55def21d65b37d8e93ea76e8f4011dbc9", func := "loop.example/namedflags/laws.FnExactValidName", spec := "fnExactValidName", apart := false, narrowed := true }
def FnExactValidNameUptoSaid : Prop := fnExactValidNameUptoRow.holds Try.pinned (OpenSpec.upto fnExactValidNameSpec)

/-- 'laws.FnExactValidEnum', WHERE WHAT IT READS IS OF BULK AT MOST 1048576: true; the input reads as it did. -/
def fnExactValidEnumUptoRow : OpenClaim := { program := "ythegkilhhdkjcaa", sum := "06c1ca4e122a09ff44f429639e4d23b55def21d65b37d8e93ea76e8f4011dbc9", func := "loop.example/namedflags/laws.FnExactValidEnum", spec := "fnExactValidEnum", apart := false, narrowed := true }
def FnExactValidEnumUptoSaid : Prop := fnExactValidEnumUptoRow.holds Try.pinned (OpenSpec.upto fnExactValidEnumSpec)

/-- 'laws.FnExactValueOf', WHERE WHAT IT READS IS OF BULK AT MOST 1048576: true; the input reads as it did. -/
def fnExactValueOfUptoRow : OpenClaim := { program := "ythegkilhhdkjcaa", sum := "06c1ca4e122a09ff44f429639e4d23b55def21d65b37d8e93ea76e8f4011dbc9", func := "loop.example/namedflags/laws.FnExactValueOf", spec := "fnExactValueOf", apart := false, narrowed := true }
def FnExactValueOfUptoSaid : Prop := fnExactValueOfUptoRow.holds Try.pinned (OpenSpec.upto fnExactValueOfSpec)

/-- 'laws.FnExactNameOf', WHERE WHAT IT READS IS OF BULK AT MOST 1048576: true; the input reads as it did. -/
def fnExactNameOfUptoRow : OpenClaim := { program := "ythegkilhhdkjcaa", sum := "06c1ca4e122a09ff44f429639e4d23b55def21d65b37d8e93ea76e8f4011dbc9", func := "loop.example/namedflags/laws.FnExactNameOf", spec := "fnExactNameOf", apart := false, narrowed := true }
def FnExactNameOfUptoSaid : Prop := fnExactNameOfUptoRow.holds Try.pinned (OpenSpec.upto fnExactNameOfSpec)

/-- 'laws.FnExactIsUnique', WHERE WHAT IT READS IS OF BULK AT MOST 1048576: true; the input reads as it did. -/
def fnExactIsUniqueUptoRow : OpenClaim := { program := "ythegkilhhdkjcaa", sum := "06c1ca4e122a09ff44f429639e4d23b55def21d65b37d8e93ea76e8f4011dbc9", func := "loop.example/namedflags/laws.FnExactIsUnique", spec := "fnExactIsUnique", apart := false, narrowed := true }
def FnExactIsUniqueUptoSaid : Prop := fnExactIsUniqueUptoRow.holds Try.pinned (OpenSpec.upto fnExactIsUniqueSpec)

/-- 'laws.FnExactRankOf', WHERE WHAT IT READS IS OF BULK AT MOST 1048576: true; the input reads as it did. -/
def fnExactRankOfUptoRow : OpenClaim := { program := "ythegkilhhdkjcaa", sum := "06c1ca4e122a09ff44f429639e4d23b55def21d65b37d8e93ea76e8f4011dbc9", func := "loop.example/namedflags/laws.FnExactRankOf", spec := "fnExactRankOf", apart := false, narrowed := true }
def FnExactRankOfUptoSaid : Prop := fnExactRankOfUptoRow.holds Try.pinned (OpenSpec.upto fnExactRankOfSpec)

/-- 'laws.FnExactNextMember', WHERE WHAT IT READS IS OF BULK AT MOST 1048576: true; the input reads as it did. -/
def fnExactNextMemberUptoRow : OpenClaim := { program := "ythegkilhhdkjcaa", sum := "06c1ca4e122a09ff44f429639e4d23b55def21d65b37d8e93ea76e8f4011dbc9", func := "loop.example/namedflags/laws.FnExactNextMember", spec := "fnExactNextMember", apart := false, narrowed := true }
def FnExactNextMemberUptoSaid : Prop := fnExactNextMemberUptoRow.holds Try.pinned (OpenSpec.upto fnExactNextMemberSpec)

/-- 'laws.FnExactMembersOf', WHERE WHAT IT READS IS OF BULK AT MOST 1048576: true; the input reads as it did. -/
def fnExactMembersOfUptoRow : OpenClaim := { program := "ythegkilhhdkjcaa", sum := "06c1ca4e122a09ff44f429639e4d23b55def21d65b37d8e93ea76e8f4011dbc9", func := "loop.example/namedflags/laws.FnExactMembersOf", spec := "fnExactMembersOf", apart := false, narrowed := true }
def FnExactMembersOfUptoSaid : Prop := fnExactMembersOfUptoRow.holds Try.pinned (OpenSpec.upto fnExactMembersOfSpec)

/-- 'laws.FnExactOtherNames', WHERE WHAT IT READS IS OF BULK AT MOST 1048576: true; the input reads as it did. -/
def fnExactOtherNamesUptoRow : OpenClaim := { program := "ythegkilhhdkjcaa", sum := "06c1ca4e122a09ff44f429639e4d23b55def21d65b37d8e93ea76e8f4011dbc9", func := "loop.example/namedflags/laws.FnExactOtherNames", spec := "fnExactOtherNames", apart := false, narrowed := true }
def FnExactOtherNamesUptoSaid : Prop := fnExactOtherNamesUptoRow.holds Try.pinned (OpenSpec.upto fnExactOtherNamesSpec)

/-- 'laws.FnExactGapsOf', WHERE WHAT IT READS IS OF BULK AT MOST 1048576: true; the input reads as it did. -/
def fnExactGapsOfUptoRow : OpenClaim := { program := "ythegkilhhdkjcaa", sum := "06c1ca4e122a09ff44f429639e4d23b55def21d65b37d8e93ea76e8f4011dbc9", func := "loop.example/namedflags/laws.FnExactGapsOf", spec := "fnExactGapsOf", apart := false, narrowed := true }
def FnExactGapsOfUptoSaid : Prop := fnExactGapsOfUptoRow.holds Try.pinned (OpenSpec.upto fnExactGapsOfSpec)

/-- 'laws.FnExactBuildEnum', WHERE WHAT IT READS IS OF BULK AT MOST 1048576: true; the input reads as it did. -/
def fnExactBuildEnumUptoRow : OpenClaim := { program := "ythegkilhhdkjcaa", sum := "06c1ca4e122a09ff44f429639e4d23b55def21d65b37d8e93ea76e8f4011dbc9", func := "loop.example/namedflags/laws.FnExactBuildEnum", spec := "fnExactBuildEnum", apart := false, narrowed := true }
def FnExactBuildEnumUptoSaid : Prop := fnExactBuildEnumUptoRow.holds Try.pinned (OpenSpec.upto fnExactBuildEnumSpec)

end Rows
end Go.Proofs.Ythegkilhhdkjcaa
