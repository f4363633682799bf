/-
  No cell of these rows narrows 'for every input' (looked for: loops, veiled, ifaces, maps, wideKeys, modest, calm, conditions, laid).
  DERIVED. THE GIVEN ROWS OF THIS SEAT. 12 by the template 'for every input the law returns true; each argument reads behind the call as it read before'; 0 by the template 'total and deterministic' (their statements: YtjccnahebafepaaTotals.lean).
  GIVEN WITH THE SEED: the statements are not yours to turn. If you find one false, say at which input.
  Laid BY PROGRAM, IN A SANDBOX (cutbox-rows.mjs): the forced cells as the released guide's own fill.sh prints them over the translation eec1dc4f4143b54d… (all of the seat's roots in one cut). By AI agents, Wed Nov 11 2026. No macro, syntax, notation, axiom, sorry.
-/
import Derived.Test.YtjccnahebafepaaChecked
import GoSem.Claim
import GoSem.ClaimJoined
import GoSem.ClaimMapViews
import Derived.JoinedTies
import Derived.KernelRfl
namespace Go.Proofs.Ytjccnahebafepaa
/- THE CELL 'sum', in the pinned program and in every row, IS THE sha256 OF THE DUMP (.gsa) THAT YtjccnahebafepaaProg.lean LOADS. Nothing in Lean hashes anything: it is a label: what it is worth is what the hold of that sum in a sandbox is worth. -/
noncomputable def Try.pinned : Pinned := { name := "ytjccnahebafepaa", sum := "eec1dc4f4143b54dd80d7915a2af6bcbd6e507069fbe0f2528d2d2fc7ce5ebec", checked := Try.checked }
namespace Rows
def none {H : Type} : Left H := { results := [], args := [] }

/-- 'laws.FnValidName': WHATEVER THE INPUT: true; the input reads as it did. -/
def fnValidNameSpec : ChangeSpec := { name := "fnValidName", fn := fun _ => fun
  | [d] => { results := [.lit (.bool true)], args := [d] }
  | _ => none }
def fnValidNameRow : OpenClaim := { program := "ytjccnahebafepaa", sum := "eec1dc4f4143b54dd80d7915a2af6bcbd6e507069fbe0f2528d2d2fc7ce5ebec", func := "loop.example/namedflags/laws.FnValidName", spec := "fnValidName", apart := false }
def FnValidNameSaid : Prop := fnValidNameRow.holds Try.pinned (OpenSpec.ofChange fnValidNameSpec)

/-- ITS FALSE NEIGHBOUR: 'it returns false'. Refute it at one input. -/
def fnValidNameWrong : ChangeSpec := { name := "fnValidName", fn := fun _ => fun
  | [d] => { results := [.lit (.bool false)], args := [d] }
  | _ => none }
def FnValidNameWrongFalsely : Prop := fnValidNameRow.holds Try.pinned (OpenSpec.ofChange fnValidNameWrong)

/-- 'laws.FnValidEnum': WHATEVER THE INPUT: true; the input reads as it did. -/
def fnValidEnumSpec : ChangeSpec := { name := "fnValidEnum", fn := fun _ => fun
  | [d] => { results := [.lit (.bool true)], args := [d] }
  | _ => none }
def fnValidEnumRow : OpenClaim := { program := "ytjccnahebafepaa", sum := "eec1dc4f4143b54dd80d7915a2af6bcbd6e507069fbe0f2528d2d2fc7ce5ebec", func := "loop.example/namedflags/laws.FnValidEnum", spec := "fnValidEnum", apart := false }
def FnValidEnumSaid : Prop := fnValidEnumRow.holds Try.pinned (OpenSpec.ofChange fnValidEnumSpec)

/-- ITS FALSE NEIGHBOUR: 'it returns false'. Refute it at one input. -/
def fnValidEnumWrong : ChangeSpec := { name := "fnValidEnum", fn := fun _ => fun
  | [d] => { results := [.lit (.bool false)], args := [d] }
  | _ => none }
def FnValidEnumWrongFalsely : Prop := fnValidEnumRow.holds Try.pinned (OpenSpec.ofChange fnValidEnumWrong)

/-- 'laws.FnBuildEnum': WHATEVER THE INPUT: true; the input reads as it did. -/
def fnBuildEnumSpec : ChangeSpec := { name := "fnBuildEnum", fn := fun _ => fun
  | [d] => { results := [.lit (.bool true)], args := [d] }
  | _ => none }
def fnBuildEnumRow : OpenClaim := { program := "ytjccnahebafepaa", sum := "eec1dc4f4143b54dd80d7915a2af6bcbd6e507069fbe0f2528d2d2fc7ce5ebec", func := "loop.example/namedflags/laws.FnBuildEnum", spec := "fnBuildEnum", apart := false }
def FnBuildEnumSaid : Prop := fnBuildEnumRow.holds Try.pinned (OpenSpec.ofChange fnBuildEnumSpec)

/-- ITS FALSE NEIGHBOUR: 'it returns false'. Refute it at one input. -/
def fnBuildEnumWrong : ChangeSpec := { name := "fnBuildEnum", fn := fun _ => fun
  | [d] => { results := [.lit (.bool false)], args := [d] }
  | _ => none }
def FnBuildEnumWrongFalsely : Prop := fnBuildEnumRow.holds Try.pinned (OpenSpec.ofChange fnBuildEnumWrong)

/-- 'laws.FnBuildEnumAgain': WHATEVER THE INPUT: true; the input reads as it did. -/
def fnBuildEnumAgainSpec : ChangeSpec := { name := "fnBuildEnumAgain", fn := fun _ => fun
  | [d] => { results := [.lit (.bool true)], args := [d] }
  | _ => none }
def fnBuildEnumAgainRow : OpenClaim := { program := "ytjccnahebafepaa", sum := "eec1dc4f4143b54dd80d7915a2af6bcbd6e507069fbe0f2528d2d2fc7ce5ebec", func := "loop.example/namedflags/laws.FnBuildEnumAgain", spec := "fnBuildEnumAgain", apart := false }
def FnBuildEnumAgainSaid : Prop := fnBuildEnumAgainRow.holds Try.pinned (OpenSpec.ofChange fnBuildEnumAgainSpec)

/-- ITS FALSE NEIGHBOUR: 'it returns false'. Refute it at one input. -/
def fnBuildEnumAgainWrong : ChangeSpec := { name := "fnBuildEnumAgain", fn := fun _ => fun
  | [d] => { results := [.lit (.bool false)], args := [d] }
  | _ => none }
def FnBuildEnumAgainWrongFalsely : Prop := fnBuildEnumAgainRow.holds Try.pinned (OpenSpec.ofChange fnBuildEnumAgainWrong)

/-- 'laws.FnValueOf': WHATEVER THE INPUT: true; the input reads as it did. -/
def fnValueOfSpec : ChangeSpec := { name := "fnValueOf", fn := fun _ => fun
  | [d] => { results := [.lit (.bool true)], args := [d] }
  | _ => none }
def fnValueOfRow : OpenClaim := { program := "ytjccnahebafepaa", sum := "eec1dc4f4143b54dd80d7915a2af6bcbd6e507069fbe0f2528d2d2fc7ce5ebec", func := "loop.example/namedflags/laws.FnValueOf", spec := "fnValueOf", apart := false }
def FnValueOfSaid : Prop := fnValueOfRow.holds Try.pinned (OpenSpec.ofChange fnValueOfSpec)

/-- ITS FALSE NEIGHBOUR: 'it returns false'. Refute it at one input. -/
def fnValueOfWrong : ChangeSpec := { name := "fnValueOf", fn := fun _ => fun
  | [d] => { results := [.lit (.bool false)], args := [d] }
  | _ => none }
def FnValueOfWrongFalsely : Prop := fnValueOfRow.holds Try.pinned (OpenSpec.ofChange fnValueOfWrong)

/-- 'laws.FnNameOf': WHATEVER THE INPUT: true; the input reads as it did. -/
def fnNameOfSpec : ChangeSpec := { name := "fnNameOf", fn := fun _ => fun
  | [d] => { results := [.lit (.bool true)], args := [d] }
  | _ => none }
def fnNameOfRow : OpenClaim := { program := "ytjccnahebafepaa", sum := "eec1dc4f4143b54dd80d7915a2af6bcbd6e507069fbe0f2528d2d2fc7ce5ebec", func := "loop.example/namedflags/laws.FnNameOf", spec := "fnNameOf", apart := false }
def FnNameOfSaid : Prop := fnNameOfRow.holds Try.pinned (OpenSpec.ofChange fnNameOfSpec)

/-- ITS FALSE NEIGHBOUR: 'it returns false'. Refute it at one input. -/
def fnNameOfWrong : ChangeSpec := { name := "fnNameOf", fn := fun _ => fun
  | [d] => { results := [.lit (.bool false)], args := [d] }
  | _ => none }
def FnNameOfWrongFalsely : Prop := fnNameOfRow.holds Try.pinned (OpenSpec.ofChange fnNameOfWrong)

/-- 'laws.FnMembersOf': WHATEVER THE INPUT: true; the input reads as it did. -/
def fnMembersOfSpec : ChangeSpec := { name := "fnMembersOf", fn := fun _ => fun
  | [d] => { results := [.lit (.bool true)], args := [d] }
  | _ => none }
def fnMembersOfRow : OpenClaim := { program := "ytjccnahebafepaa", sum := "eec1dc4f4143b54dd80d7915a2af6bcbd6e507069fbe0f2528d2d2fc7ce5ebec", func := "loop.example/namedflags/laws.FnMembersOf", spec := "fnMembersOf", apart := false }
def FnMembersOfSaid : Prop := fnMembersOfRow.holds Try.pinned (OpenSpec.ofChange fnMembersOfSpec)

/-- ITS FALSE NEIGHBOUR: 'it returns false'. Refute it at one input. -/
def fnMembersOfWrong : ChangeSpec := { name := "fnMembersOf", fn := fun _ => fun
  | [d] => { results := [.lit (.bool false)], args := [d] }
  | _ => none }
def FnMembersOfWrongFalsely : Prop := fnMembersOfRow.holds Try.pinned (OpenSpec.ofChange fnMembersOfWrong)

/-- 'laws.FnOtherNames': WHATEVER THE INPUT: true; the input reads as it did. -/
def fnOtherNamesSpec : ChangeSpec := { name := "fnOtherNames", fn := fun _ => fun
  | [d] => { results := [.lit (.bool true)], args := [d] }
  | _ => none }
def fnOtherNamesRow : OpenClaim := { program := "ytjccnahebafepaa", sum := "eec1dc4f4143b54dd80d7915a2af6bcbd6e507069fbe0f2528d2d2fc7ce5ebec", func := "loop.example/namedflags/laws.FnOtherNames", spec := "fnOtherNames", apart := false }
def FnOtherNamesSaid : Prop := fnOtherNamesRow.holds Try.pinned (OpenSpec.ofChange fnOtherNamesSpec)

/-- ITS FALSE NEIGHBOUR: 'it returns false'. Refute it at one input. -/
def fnOtherNamesWrong : ChangeSpec := { name := "fnOtherNames", fn := fun _ => fun
  | [d] => { results := [.lit (.bool false)], args := [d] }
  | _ => none }
def FnOtherNamesWrongFalsely : Prop := fnOtherNamesRow.holds Try.pinned (OpenSpec.ofChange fnOtherNamesWrong)

/-- 'laws.FnIsUnique': WHATEVER THE INPUT: true; the input reads as it did. -/
def fnIsUniqueSpec : ChangeSpec := { name := "fnIsUnique", fn := fun _ => fun
  | [d] => { results := [.lit (.bool true)], args := [d] }
  | _ => none }
def fnIsUniqueRow : OpenClaim := { program := "ytjccnahebafepaa", sum := "eec1dc4f4143b54dd80d7915a2af6bcbd6e507069fbe0f2528d2d2fc7ce5ebec", func := "loop.example/namedflags/laws.FnIsUnique", spec := "fnIsUnique", apart := false }
def FnIsUniqueSaid : Prop := fnIsUniqueRow.holds Try.pinned (OpenSpec.ofChange fnIsUniqueSpec)

/-- ITS FALSE NEIGHBOUR: 'it returns false'. Refute it at one input. -/
def fnIsUniqueWrong : ChangeSpec := { name := "fnIsUnique", fn := fun _ => fun
  | [d] => { results := [.lit (.bool false)], args := [d] }
  | _ => none }
def FnIsUniqueWrongFalsely : Prop := fnIsUniqueRow.holds Try.pinned (OpenSpec.ofChange fnIsUniqueWrong)

/-- 'laws.FnGapsOf': WHATEVER THE INPUT: true; the input reads as it did. -/
def fnGapsOfSpec : ChangeSpec := { name := "fnGapsOf", fn := fun _ => fun
  | [d] => { results := [.lit (.bool true)], args := [d] }
  | _ => none }
def fnGapsOfRow : OpenClaim := { program := "ytjccnahebafepaa", sum := "eec1dc4f4143b54dd80d7915a2af6bcbd6e507069fbe0f2528d2d2fc7ce5ebec", func := "loop.example/namedflags/laws.FnGapsOf", spec := "fnGapsOf", apart := false }
def FnGapsOfSaid : Prop := fnGapsOfRow.holds Try.pinned (OpenSpec.ofChange fnGapsOfSpec)

/-- ITS FALSE NEIGHBOUR: 'it returns false'. Refute it at one input. -/
def fnGapsOfWrong : ChangeSpec := { name := "fnGapsOf", fn := fun _ => fun
  | [d] => { results := [.lit (.bool false)], args := [d] }
  | _ => none }
def FnGapsOfWrongFalsely : Prop := fnGapsOfRow.holds Try.pinned (OpenSpec.ofChange fnGapsOfWrong)

/-- 'laws.FnRankOf': WHATEVER THE INPUT: true; the input reads as it did. -/
def fnRankOfSpec : ChangeSpec := { name := "fnRankOf", fn := fun _ => fun
  | [d] => { results := [.lit (.bool true)], args := [d] }
  | _ => none }
def fnRankOfRow : OpenClaim := { program := "ytjccnahebafepaa", sum := "eec1dc4f4143b54dd80d7915a2af6bcbd6e507069fbe0f2528d2d2fc7ce5ebec", func := "loop.example/namedflags/laws.FnRankOf", spec := "fnRankOf", apart := false }
def FnRankOfSaid : Prop := fnRankOfRow.holds Try.pinned (OpenSpec.ofChange fnRankOfSpec)

/-- ITS FALSE NEIGHBOUR: 'it returns false'. Refute it at one input. -/
def fnRankOfWrong : ChangeSpec := { name := "fnRankOf", fn := fun _ => fun
  | [d] => { results := [.lit (.bool false)], args := [d] }
  | _ => none }
def FnRankOfWrongFalsely : Prop := fnRankOfRow.holds Try.pinned (OpenSpec.ofChange fnRankOfWrong)

/-- 'laws.FnNextMember': WHATEVER THE INPUT: true; the input reads as it did. -/
def fnNextMemberSpec : ChangeSpec := { name := "fnNextMember", fn := fun _ => fun
  | [d] => { results := [.lit (.bool true)], args := [d] }
  | _ => none }
def fnNextMemberRow : OpenClaim := { program := "ytjccnahebafepaa", sum := "eec1dc4f4143b54dd80d7915a2af6bcbd6e507069fbe0f2528d2d2fc7ce5ebec", func := "loop.example/namedflags/laws.FnNextMember", spec := "fnNextMember", apart := false }
def FnNextMemberSaid : Prop := fnNextMemberRow.holds Try.pinned (OpenSpec.ofChange fnNextMemberSpec)

/-- ITS FALSE NEIGHBOUR: 'it returns false'. Refute it at one input. -/
def fnNextMemberWrong : ChangeSpec := { name := "fnNextMember", fn := fun _ => fun
  | [d] => { results := [.lit (.bool false)], args := [d] }
  | _ => none }
def FnNextMemberWrongFalsely : Prop := fnNextMemberRow.holds Try.pinned (OpenSpec.ofChange fnNextMemberWrong)

/- THE SECOND FORM. 'bulk': how many values and letters a reading holds, each counted each time it is reached (what is shared counts as often as it is met; a slice's spare places count too). A statement '..UptoSaid' is the law's where the arguments, and the package variables that the reading takes, are together of bulk at most 1048576: NARROWER than '..Said'. Prove '..Said' where nothing that the law and all that it calls make is longer than what came in: it says more and counts as full. Else prove '..UptoSaid'. A law counts once. -/
mutual
def uptoBulk {H : Type} : DataW H → Nat
  | .lit (.string bytes) => bytes.length + 1
  | .lit _ => 1
  | .nil => 1
  | .ptr d => uptoBulk d + 1
  | .slice elems spare => uptoBulkAll elems + uptoBulkAll spare + 1
  | .agg parts => uptoBulkAll parts + 1
  | .iface _ d => uptoBulk d + 1
  | .map entries => uptoBulkEntries entries + 1
  | .held _ => 1
def uptoBulkAll {H : Type} : List (DataW H) → Nat
  | [] => 0
  | d :: r => uptoBulk d + uptoBulkAll r
def uptoBulkEntries {H : Type} : List (Lit × DataW H) → Nat
  | [] => 0
  | x :: r => uptoBulkEntry x + uptoBulkEntries r
def uptoBulkEntry {H : Type} : Lit × DataW H → Nat
  | (.string bytes, d) => bytes.length + uptoBulk d + 1
  | (_, d) => uptoBulk d + 1
 end
def uptoSmall : (H : Type) → List (DataW H) → Bool := fun _ ds => decide (uptoBulkAll ds ≤ 1048576)
def OpenSpec.upto (s : _root_.Go.ChangeSpec) : _root_.Go.OpenSpec := { _root_.Go.OpenSpec.ofChange s with cond := some uptoSmall }

/-- 'laws.FnValidName', WHERE WHAT IT READS IS OF BULK AT MOST 1048576: true; the input reads as it did. -/
def fnValidNameUptoRow : OpenClaim := { program := "ytjccnahebafepaa", sum := "eec1dc4f4143b54dd80d7915a2af6bcbd6e507069fbe0f2528d2d2fc7ce5ebec", func := "loop.example/namedflags/laws.FnValidName", spec := "fnValidName", apart := false, narrowed := true }
def FnValidNameUptoSaid : Prop := fnValidNameUptoRow.holds Try.pinned (OpenSpec.upto fnValidNameSpec)

/-- 'laws.FnValidEnum', WHERE WHAT IT READS IS OF BULK AT MOST 1048576: true; the input reads as it did. -/
def fnValidEnumUptoRow : OpenClaim := { program := "ytjccnahebafepaa", sum := "eec1dc4f4143b54dd80d7915a2af6bcbd6e507069fbe0f2528d2d2fc7ce5ebec", func := "loop.example/namedflags/laws.FnValidEnum", spec := "fnValidEnum", apart := false, narrowed := true }
def FnValidEnumUptoSaid : Prop := fnValidEnumUptoRow.holds Try.pinned (OpenSpec.upto fnValidEnumSpec)

/-- 'laws.FnBuildEnum', WHERE WHAT IT READS IS OF BULK AT MOST 1048576: true; the input reads as it did. -/
def fnBuildEnumUptoRow : OpenClaim := { program := "ytjccnahebafepaa", sum := "eec1dc4f4143b54dd80d7915a2af6bcbd6e507069fbe0f2528d2d2fc7ce5ebec", func := "loop.example/namedflags/laws.FnBuildEnum", spec := "fnBuildEnum", apart := false, narrowed := true }
def FnBuildEnumUptoSaid : Prop := fnBuildEnumUptoRow.holds Try.pinned (OpenSpec.upto fnBuildEnumSpec)

/-- 'laws.FnBuildEnumAgain', WHERE WHAT IT READS IS OF BULK AT MOST 1048576: true; the input reads as it did. -/
def fnBuildEnumAgainUptoRow : OpenClaim := { program := "ytjccnahebafepaa", sum := "eec1dc4f4143b54dd80d7915a2af6bcbd6e507069fbe0f2528d2d2fc7ce5ebec", func := "loop.example/namedflags/laws.FnBuildEnumAgain", spec := "fnBuildEnumAgain", apart := false, narrowed := true }
def FnBuildEnumAgainUptoSaid : Prop := fnBuildEnumAgainUptoRow.holds Try.pinned (OpenSpec.upto fnBuildEnumAgainSpec)

/-- 'laws.FnValueOf', WHERE WHAT IT READS IS OF BULK AT MOST 1048576: true; the input reads as it did. -/
def fnValueOfUptoRow : OpenClaim := { program := "ytjccnahebafepaa", sum := "eec1dc4f4143b54dd80d7915a2af6bcbd6e507069fbe0f2528d2d2fc7ce5ebec", func := "loop.example/namedflags/laws.FnValueOf", spec := "fnValueOf", apart := false, narrowed := true }
def FnValueOfUptoSaid : Prop := fnValueOfUptoRow.holds Try.pinned (OpenSpec.upto fnValueOfSpec)

/-- 'laws.FnNameOf', WHERE WHAT IT READS IS OF BULK AT MOST 1048576: true; the input reads as it did. -/
def fnNameOfUptoRow : OpenClaim := { program := "ytjccnahebafepaa", sum := "eec1dc4f4143b54dd80d7915a2af6bcbd6e507069fbe0f2528d2d2fc7ce5ebec", func := "loop.example/namedflags/laws.FnNameOf", spec := "fnNameOf", apart := false, narrowed := true }
def FnNameOfUptoSaid : Prop := fnNameOfUptoRow.holds Try.pinned (OpenSpec.upto fnNameOfSpec)

/-- 'laws.FnMembersOf', WHERE WHAT IT READS IS OF BULK AT MOST 1048576: true; the input reads as it did. -/
def fnMembersOfUptoRow : OpenClaim := { program := "ytjccnahebafepaa", sum := "eec1dc4f4143b54dd80d7915a2af6bcbd6e507069fbe0f2528d2d2fc7ce5ebec", func := "loop.example/namedflags/laws.FnMembersOf", spec := "fnMembersOf", apart := false, narrowed := true }
def FnMembersOfUptoSaid : Prop := fnMembersOfUptoRow.holds Try.pinned (OpenSpec.upto fnMembersOfSpec)

/-- 'laws.FnOtherNames', WHERE WHAT IT READS IS OF BULK AT MOST 1048576: true; the input reads as it did. -/
def fnOtherNamesUptoRow : OpenClaim := { program := "ytjccnahebafepaa", sum := "eec1dc4f4143b54dd80d7915a2af6bcbd6e507069fbe0f2528d2d2fc7ce5ebec", func := "loop.example/namedflags/laws.FnOtherNames", spec := "fnOtherNames", apart := false, narrowed := true }
def FnOtherNamesUptoSaid : Prop := fnOtherNamesUptoRow.holds Try.pinned (OpenSpec.upto fnOtherNamesSpec)

/-- 'laws.FnIsUnique', WHERE WHAT IT READS IS OF BULK AT MOST 1048576: true; the input reads as it did. -/
def fnIsUniqueUptoRow : OpenClaim := { program := "ytjccnahebafepaa", sum := "eec1dc4f4143b54dd80d7915a2af6bcbd6e507069fbe0f2528d2d2fc7ce5ebec", func := "loop.example/namedflags/laws.FnIsUnique", spec := "fnIsUnique", apart := false, narrowed := true }
def FnIsUniqueUptoSaid : Prop := fnIsUniqueUptoRow.holds Try.pinned (OpenSpec.upto fnIsUniqueSpec)

/-- 'laws.FnGapsOf', WHERE WHAT IT READS IS OF BULK AT MOST 1048576: true; the input reads as it did. -/
def fnGapsOfUptoRow : OpenClaim := { program := "ytjccnahebafepaa", sum := "eec1dc4f4143b54dd80d7915a2af6bcbd6e507069fbe0f2528d2d2fc7ce5ebec", func := "loop.example/namedflags/laws.FnGapsOf", spec := "fnGapsOf", apart := false, narrowed := true }
def FnGapsOfUptoSaid : Prop := fnGapsOfUptoRow.holds Try.pinned (OpenSpec.upto fnGapsOfSpec)

/-- 'laws.FnRankOf', WHERE WHAT IT READS IS OF BULK AT MOST 1048576: true; the input reads as it did. -/
def fnRankOfUptoRow : OpenClaim := { program := "ytjccnahebafepaa", sum := "eec1dc4f4143b54dd80d7915a2af6bcbd6e507069fbe0f2528d2d2fc7ce5ebec", func := "loop.example/namedflags/laws.FnRankOf", spec := "fnRankOf", apart := false, narrowed := true }
def FnRankOfUptoSaid : Prop := fnRankOfUptoRow.holds Try.pinned (OpenSpec.upto fnRankOfSpec)

/-- 'laws.FnNextMember', WHERE WHAT IT READS IS OF BULK AT MOST 1048576: true; the input reads as it did. -/
def fnNextMemberUptoRow : OpenClaim := { program := "ytjccnahebafepaa", sum := "eec1dc4f4143b54dd80d7915a2af6bcbd6e507069fbe0f2528d2d2fc7ce5ebec", func := "loop.example/namedflags/laws.FnNextMember", spec := "fnNextMember", apart := false, narrowed := true }
def FnNextMemberUptoSaid : Prop := fnNextMemberUptoRow.holds Try.pinned (OpenSpec.upto fnNextMemberSpec)

end Rows
end Go.Proofs.Ytjccnahebafepaa
