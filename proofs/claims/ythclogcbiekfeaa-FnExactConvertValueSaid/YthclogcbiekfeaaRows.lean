/-
  No cell of these rows narrows 'for every input' (looked for: loops, veiled, ifaces, maps, wideKeys, modest, calm, conditions, laid).
  DERIVED. THE GIVEN ROWS OF THIS SEAT. 10 by the template 'for every input the law returns true; each argument reads behind the call as it read before'; 0 by the template 'total and deterministic' (their statements: YthclogcbiekfeaaTotals.lean).
  GIVEN WITH THE SEED: the statements are not yours to turn. If you find one false, say at which input.
  Laid BY PROGRAM, IN A SANDBOX (cutbox-rows.mjs): the forced cells as the released guide's own fill.sh prints them over the translation d469f10875dc5a66… (all of the seat's roots in one cut). By AI agents, Wed Nov 11 2026. No macro, syntax, notation, axiom, sorry.
-/
import Derived.Test.YthclogcbiekfeaaChecked
import GoSem.Claim
import GoSem.ClaimJoined
import GoSem.ClaimMapViews
import Derived.JoinedTies
import Derived.KernelRfl
namespace Go.Proofs.Ythclogcbiekfeaa
/- THE CELL 'sum', in the pinned program and in every row, IS THE sha256 OF THE DUMP (.gsa) THAT YthclogcbiekfeaaProg.lean LOADS. Nothing in Lean hashes anything: it is a label: what it is worth is what the hold of that sum in a sandbox is worth. -/
noncomputable def Try.pinned : Pinned := { name := "ythclogcbiekfeaa", sum := "d469f10875dc5a66e6166806c35504d859ae628ce9b1101ed96aee585393226b", checked := Try.checked }
namespace Rows
def none {H : Type} : Left H := { results := [], args := [] }

/-- 'laws.FnExactByName': WHATEVER THE INPUT: true; the input reads as it did. -/
def fnExactByNameSpec : ChangeSpec := { name := "fnExactByName", fn := fun _ => fun
  | [d1, d2, d3] => { results := [.lit (.bool true)], args := [d1, d2, d3] }
  | _ => none }
def fnExactByNameRow : OpenClaim := { program := "ythclogcbiekfeaa", sum := "d469f10875dc5a66e6166806c35504d859ae628ce9b1101ed96aee585393226b", func := "loop.example/namedflags/laws.FnExactByName", spec := "fnExactByName", apart := false }
def FnExactByNameSaid : Prop := fnExactByNameRow.holds Try.pinned (OpenSpec.ofChange fnExactByNameSpec)

/-- ITS FALSE NEIGHBOUR: 'it returns false'. Refute it at one input. -/
def fnExactByNameWrong : ChangeSpec := { name := "fnExactByName", fn := fun _ => fun
  | [d1, d2, d3] => { results := [.lit (.bool false)], args := [d1, d2, d3] }
  | _ => none }
def FnExactByNameWrongFalsely : Prop := fnExactByNameRow.holds Try.pinned (OpenSpec.ofChange fnExactByNameWrong)

/-- 'laws.FnExactByValue': WHATEVER THE INPUT: true; the input reads as it did. -/
def fnExactByValueSpec : ChangeSpec := { name := "fnExactByValue", fn := fun _ => fun
  | [d1, d2, d3] => { results := [.lit (.bool true)], args := [d1, d2, d3] }
  | _ => none }
def fnExactByValueRow : OpenClaim := { program := "ythclogcbiekfeaa", sum := "d469f10875dc5a66e6166806c35504d859ae628ce9b1101ed96aee585393226b", func := "loop.example/namedflags/laws.FnExactByValue", spec := "fnExactByValue", apart := false }
def FnExactByValueSaid : Prop := fnExactByValueRow.holds Try.pinned (OpenSpec.ofChange fnExactByValueSpec)

/-- ITS FALSE NEIGHBOUR: 'it returns false'. Refute it at one input. -/
def fnExactByValueWrong : ChangeSpec := { name := "fnExactByValue", fn := fun _ => fun
  | [d1, d2, d3] => { results := [.lit (.bool false)], args := [d1, d2, d3] }
  | _ => none }
def FnExactByValueWrongFalsely : Prop := fnExactByValueRow.holds Try.pinned (OpenSpec.ofChange fnExactByValueWrong)

/-- 'laws.FnExactRenumber': WHATEVER THE INPUT: true; the input reads as it did. -/
def fnExactRenumberSpec : ChangeSpec := { name := "fnExactRenumber", fn := fun _ => fun
  | [d] => { results := [.lit (.bool true)], args := [d] }
  | _ => none }
def fnExactRenumberRow : OpenClaim := { program := "ythclogcbiekfeaa", sum := "d469f10875dc5a66e6166806c35504d859ae628ce9b1101ed96aee585393226b", func := "loop.example/namedflags/laws.FnExactRenumber", spec := "fnExactRenumber", unfollowed := true, recurses := true, apart := false }
def FnExactRenumberSaid : Prop := fnExactRenumberRow.holds Try.pinned (OpenSpec.ofChange fnExactRenumberSpec)

/-- ITS FALSE NEIGHBOUR: 'it returns false'. Refute it at one input. -/
def fnExactRenumberWrong : ChangeSpec := { name := "fnExactRenumber", fn := fun _ => fun
  | [d] => { results := [.lit (.bool false)], args := [d] }
  | _ => none }
def FnExactRenumberWrongFalsely : Prop := fnExactRenumberRow.holds Try.pinned (OpenSpec.ofChange fnExactRenumberWrong)

/-- 'laws.FnExactFlagOf': WHATEVER THE INPUT: true; the input reads as it did. -/
def fnExactFlagOfSpec : ChangeSpec := { name := "fnExactFlagOf", fn := fun _ => fun
  | [d] => { results := [.lit (.bool true)], args := [d] }
  | _ => none }
def fnExactFlagOfRow : OpenClaim := { program := "ythclogcbiekfeaa", sum := "d469f10875dc5a66e6166806c35504d859ae628ce9b1101ed96aee585393226b", func := "loop.example/namedflags/laws.FnExactFlagOf", spec := "fnExactFlagOf", unfollowed := true, recurses := true, apart := false }
def FnExactFlagOfSaid : Prop := fnExactFlagOfRow.holds Try.pinned (OpenSpec.ofChange fnExactFlagOfSpec)

/-- ITS FALSE NEIGHBOUR: 'it returns false'. Refute it at one input. -/
def fnExactFlagOfWrong : ChangeSpec := { name := "fnExactFlagOf", fn := fun _ => fun
  | [d] => { results := [.lit (.bool false)], args := [d] }
  | _ => none }
def FnExactFlagOfWrongFalsely : Prop := fnExactFlagOfRow.holds Try.pinned (OpenSpec.ofChange fnExactFlagOfWrong)

/-- 'laws.FnExactSetOf': WHATEVER THE INPUT: true; the input reads as it did. -/
def fnExactSetOfSpec : ChangeSpec := { name := "fnExactSetOf", fn := fun _ => fun
  | [d1, d2] => { results := [.lit (.bool true)], args := [d1, d2] }
  | _ => none }
def fnExactSetOfRow : OpenClaim := { program := "ythclogcbiekfeaa", sum := "d469f10875dc5a66e6166806c35504d859ae628ce9b1101ed96aee585393226b", func := "loop.example/namedflags/laws.FnExactSetOf", spec := "fnExactSetOf", unfollowed := true, recurses := true, apart := false }
def FnExactSetOfSaid : Prop := fnExactSetOfRow.holds Try.pinned (OpenSpec.ofChange fnExactSetOfSpec)

/-- ITS FALSE NEIGHBOUR: 'it returns false'. Refute it at one input. -/
def fnExactSetOfWrong : ChangeSpec := { name := "fnExactSetOf", fn := fun _ => fun
  | [d1, d2] => { results := [.lit (.bool false)], args := [d1, d2] }
  | _ => none }
def FnExactSetOfWrongFalsely : Prop := fnExactSetOfRow.holds Try.pinned (OpenSpec.ofChange fnExactSetOfWrong)

/-- 'laws.FnExactMembersIn': WHATEVER THE INPUT: true; the input reads as it did. -/
def fnExactMembersInSpec : ChangeSpec := { name := "fnExactMembersIn", fn := fun _ => fun
  | [d1, d2] => { results := [.lit (.bool true)], args := [d1, d2] }
  | _ => none }
def fnExactMembersInRow : OpenClaim := { program := "ythclogcbiekfeaa", sum := "d469f10875dc5a66e6166806c35504d859ae628ce9b1101ed96aee585393226b", func := "loop.example/namedflags/laws.FnExactMembersIn", spec := "fnExactMembersIn", unfollowed := true, recurses := true, apart := false }
def FnExactMembersInSaid : Prop := fnExactMembersInRow.holds Try.pinned (OpenSpec.ofChange fnExactMembersInSpec)

/-- ITS FALSE NEIGHBOUR: 'it returns false'. Refute it at one input. -/
def fnExactMembersInWrong : ChangeSpec := { name := "fnExactMembersIn", fn := fun _ => fun
  | [d1, d2] => { results := [.lit (.bool false)], args := [d1, d2] }
  | _ => none }
def FnExactMembersInWrongFalsely : Prop := fnExactMembersInRow.holds Try.pinned (OpenSpec.ofChange fnExactMembersInWrong)

/-- 'laws.FnExactConvertValue': WHATEVER THE INPUT: true; the input reads as it did. -/
def fnExactConvertValueSpec : ChangeSpec := { name := "fnExactConvertValue", fn := fun _ => fun
  | [d1, d2, d3] => { results := [.lit (.bool true)], args := [d1, d2, d3] }
  | _ => none }
def fnExactConvertValueRow : OpenClaim := { program := "ythclogcbiekfeaa", sum := "d469f10875dc5a66e6166806c35504d859ae628ce9b1101ed96aee585393226b", func := "loop.example/namedflags/laws.FnExactConvertValue", spec := "fnExactConvertValue", unfollowed := true, recurses := true, apart := false }
def FnExactConvertValueSaid : Prop := fnExactConvertValueRow.holds Try.pinned (OpenSpec.ofChange fnExactConvertValueSpec)

/-- ITS FALSE NEIGHBOUR: 'it returns false'. Refute it at one input. -/
def fnExactConvertValueWrong : ChangeSpec := { name := "fnExactConvertValue", fn := fun _ => fun
  | [d1, d2, d3] => { results := [.lit (.bool false)], args := [d1, d2, d3] }
  | _ => none }
def FnExactConvertValueWrongFalsely : Prop := fnExactConvertValueRow.holds Try.pinned (OpenSpec.ofChange fnExactConvertValueWrong)

/-- 'laws.FnExactTableOf': WHATEVER THE INPUT: true; the input reads as it did. -/
def fnExactTableOfSpec : ChangeSpec := { name := "fnExactTableOf", fn := fun _ => fun
  | [d1, d2] => { results := [.lit (.bool true)], args := [d1, d2] }
  | _ => none }
def fnExactTableOfRow : OpenClaim := { program := "ythclogcbiekfeaa", sum := "d469f10875dc5a66e6166806c35504d859ae628ce9b1101ed96aee585393226b", func := "loop.example/namedflags/laws.FnExactTableOf", spec := "fnExactTableOf", apart := false }
def FnExactTableOfSaid : Prop := fnExactTableOfRow.holds Try.pinned (OpenSpec.ofChange fnExactTableOfSpec)

/-- ITS FALSE NEIGHBOUR: 'it returns false'. Refute it at one input. -/
def fnExactTableOfWrong : ChangeSpec := { name := "fnExactTableOf", fn := fun _ => fun
  | [d1, d2] => { results := [.lit (.bool false)], args := [d1, d2] }
  | _ => none }
def FnExactTableOfWrongFalsely : Prop := fnExactTableOfRow.holds Try.pinned (OpenSpec.ofChange fnExactTableOfWrong)

/-- 'laws.FnExactLookUp': WHATEVER THE INPUT: true; the input reads as it did. -/
def fnExactLookUpSpec : ChangeSpec := { name := "fnExactLookUp", fn := fun _ => fun
  | [d1, d2, d3] => { results := [.lit (.bool true)], args := [d1, d2, d3] }
  | _ => none }
def fnExactLookUpRow : OpenClaim := { program := "ythclogcbiekfeaa", sum := "d469f10875dc5a66e6166806c35504d859ae628ce9b1101ed96aee585393226b", func := "loop.example/namedflags/laws.FnExactLookUp", spec := "fnExactLookUp", unfollowed := true, recurses := true, apart := false }
def FnExactLookUpSaid : Prop := fnExactLookUpRow.holds Try.pinned (OpenSpec.ofChange fnExactLookUpSpec)

/-- ITS FALSE NEIGHBOUR: 'it returns false'. Refute it at one input. -/
def fnExactLookUpWrong : ChangeSpec := { name := "fnExactLookUp", fn := fun _ => fun
  | [d1, d2, d3] => { results := [.lit (.bool false)], args := [d1, d2, d3] }
  | _ => none }
def FnExactLookUpWrongFalsely : Prop := fnExactLookUpRow.holds Try.pinned (OpenSpec.ofChange fnExactLookUpWrong)

/-- 'laws.FnExactRevalue': WHATEVER THE INPUT: true; the input reads as it did. -/
def fnExactRevalueSpec : ChangeSpec := { name := "fnExactRevalue", fn := fun _ => fun
  | [d1, d2] => { results := [.lit (.bool true)], args := [d1, d2] }
  | _ => none }
def fnExactRevalueRow : OpenClaim := { program := "ythclogcbiekfeaa", sum := "d469f10875dc5a66e6166806c35504d859ae628ce9b1101ed96aee585393226b", func := "loop.example/namedflags/laws.FnExactRevalue", spec := "fnExactRevalue", unfollowed := true, recurses := true, apart := false }
def FnExactRevalueSaid : Prop := fnExactRevalueRow.holds Try.pinned (OpenSpec.ofChange fnExactRevalueSpec)

/-- ITS FALSE NEIGHBOUR: 'it returns false'. Refute it at one input. -/
def fnExactRevalueWrong : ChangeSpec := { name := "fnExactRevalue", fn := fun _ => fun
  | [d1, d2] => { results := [.lit (.bool false)], args := [d1, d2] }
  | _ => none }
def FnExactRevalueWrongFalsely : Prop := fnExactRevalueRow.holds Try.pinned (OpenSpec.ofChange fnExactRevalueWrong)

/- THE SECOND FORM. 'bulk': how many values and letters a reading holds, each counted each time it is reached (what is shared counts as often as it is met; a slice's spare places count too). A statement '..UptoSaid' is the law's where the arguments, and the package variables that the reading takes, are together of bulk at most 1048576: NARROWER than '..Said'. Prove '..Said' where nothing that the law and all that it calls make is longer than what came in: it says more and counts as full. Else prove '..UptoSaid'. A law counts once. -/
mutual
def uptoBulk {H : Type} : DataW H → Nat
  | .lit (.string bytes) => bytes.length + 1
  | .lit _ => 1
  | .nil => 1
  | .ptr d => uptoBulk d + 1
  | .slice elems spare => uptoBulkAll elems + uptoBulkAll spare + 1
  | .agg parts => uptoBulkAll parts + 1
  | .iface _ d => uptoBulk d + 1
  | .map entries => uptoBulkEntries entries + 1
  | .held _ => 1
def uptoBulkAll {H : Type} : List (DataW H) → Nat
  | [] => 0
  | d :: r => uptoBulk d + uptoBulkAll r
def uptoBulkEntries {H : Type} : List (Lit × DataW H) → Nat
  | [] => 0
  | x :: r => uptoBulkEntry x + uptoBulkEntries r
def uptoBulkEntry {H : Type} : Lit × DataW H → Nat
  | (.string bytes, d) => bytes.length + uptoBulk d + 1
  | (_, d) => uptoBulk d + 1
 end
def uptoSmall : (H : Type) → List (DataW H) → Bool := fun _ ds => decide (uptoBulkAll ds ≤ 1048576)
def OpenSpec.upto (s : _root_.Go.ChangeSpec) : _root_.Go.OpenSpec := { _root_.Go.OpenSpec.ofChange s with cond := some uptoSmall }

/-- 'laws.FnExactByName', WHERE WHAT IT READS IS OF BULK AT MOST 1048576: true; the input reads as it did. -/
def fnExactByNameUptoRow : OpenClaim := { program := "ythclogcbiekfeaa", sum := "d469f10875dc5a66e6166806c35504d859ae628ce9b1101ed96aee585393226b", func := "loop.example/namedflags/laws.FnExactByName", spec := "fnExactByName", apart := false, narrowed := true }
def FnExactByNameUptoSaid : Prop := fnExactByNameUptoRow.holds Try.pinned (OpenSpec.upto fnExactByNameSpec)

/-- 'laws.FnExactByValue', WHERE WHAT IT READS IS OF BULK AT MOST 1048576: true; the input reads as it did. -/
def fnExactByValueUptoRow : OpenClaim := { program := "ythclogcbiekfeaa", sum := "d469f10875dc5a66e6166806c35504d859ae628ce9b1101ed96aee585393226b", func := "loop.example/namedflags/laws.FnExactByValue", spec := "fnExactByValue", apart := false, narrowed := true }
def FnExactByValueUptoSaid : Prop := fnExactByValueUptoRow.holds Try.pinned (OpenSpec.upto fnExactByValueSpec)

/-- 'laws.FnExactRenumber', WHERE WHAT IT READS IS OF BULK AT MOST 1048576: true; the input reads as it did. -/
def fnExactRenumberUptoRow : OpenClaim := { program := "ythclogcbiekfeaa", sum := "d469f10875dc5a66e6166806c35504d859ae628ce9b1101ed96aee585393226b", func := "loop.example/namedflags/laws.FnExactRenumber", spec := "fnExactRenumber", unfollowed := true, recurses := true, apart := false, narrowed := true }
def FnExactRenumberUptoSaid : Prop := fnExactRenumberUptoRow.holds Try.pinned (OpenSpec.upto fnExactRenumberSpec)

/-- 'laws.FnExactFlagOf', WHERE WHAT IT READS IS OF BULK AT MOST 1048576: true; the input reads as it did. -/
def fnExactFlagOfUptoRow : OpenClaim := { program := "ythclogcbiekfeaa", sum := "d469f10875dc5a66e6166806c35504d859ae628ce9b1101ed96aee585393226b", func := "loop.example/namedflags/laws.FnExactFlagOf", spec := "fnExactFlagOf", unfollowed := true, recurses := true, apart := false, narrowed := true }
def FnExactFlagOfUptoSaid : Prop := fnExactFlagOfUptoRow.holds Try.pinned (OpenSpec.upto fnExactFlagOfSpec)

/-- 'laws.FnExactSetOf', WHERE WHAT IT READS IS OF BULK AT MOST 1048576: true; the input reads as it did. -/
def fnExactSetOfUptoRow : OpenClaim := { program := "ythclogcbiekfeaa", sum := "d469f10875dc5a66e6166806c35504d859ae628ce9b1101ed96aee585393226b", func := "loop.example/namedflags/laws.FnExactSetOf", spec := "fnExactSetOf", unfollowed := true, recurses := true, apart := false, narrowed := true }
def FnExactSetOfUptoSaid : Prop := fnExactSetOfUptoRow.holds Try.pinned (OpenSpec.upto fnExactSetOfSpec)

/-- 'laws.FnExactMembersIn', WHERE WHAT IT READS IS OF BULK AT MOST 1048576: true; the input reads as it did. -/
def fnExactMembersInUptoRow : OpenClaim := { program := "ythclogcbiekfeaa", sum := "d469f10875dc5a66e6166806c35504d859ae628ce9b1101ed96aee585393226b", func := "loop.example/namedflags/laws.FnExactMembersIn", spec := "fnExactMembersIn", unfollowed := true, recurses := true, apart := false, narrowed := true }
def FnExactMembersInUptoSaid : Prop := fnExactMembersInUptoRow.holds Try.pinned (OpenSpec.upto fnExactMembersInSpec)

/-- 'laws.FnExactConvertValue', WHERE WHAT IT READS IS OF BULK AT MOST 1048576: true; the input reads as it did. -/
def fnExactConvertValueUptoRow : OpenClaim := { program := "ythclogcbiekfeaa", sum := "d469f10875dc5a66e6166806c35504d859ae628ce9b1101ed96aee585393226b", func := "loop.example/namedflags/laws.FnExactConvertValue", spec := "fnExactConvertValue", unfollowed := true, recurses := true, apart := false, narrowed := true }
def FnExactConvertValueUptoSaid : Prop := fnExactConvertValueUptoRow.holds Try.pinned (OpenSpec.upto fnExactConvertValueSpec)

/-- 'laws.FnExactTableOf', WHERE WHAT IT READS IS OF BULK AT MOST 1048576: true; the input reads as it did. -/
def fnExactTableOfUptoRow : OpenClaim := { program := "ythclogcbiekfeaa", sum := "d469f10875dc5a66e6166806c35504d859ae628ce9b1101ed96aee585393226b", func := "loop.example/namedflags/laws.FnExactTableOf", spec := "fnExactTableOf", apart := false, narrowed := true }
def FnExactTableOfUptoSaid : Prop := fnExactTableOfUptoRow.holds Try.pinned (OpenSpec.upto fnExactTableOfSpec)

/-- 'laws.FnExactLookUp', WHERE WHAT IT READS IS OF BULK AT MOST 1048576: true; the input reads as it did. -/
def fnExactLookUpUptoRow : OpenClaim := { program := "ythclogcbiekfeaa", sum := "d469f10875dc5a66e6166806c35504d859ae628ce9b1101ed96aee585393226b", func := "loop.example/namedflags/laws.FnExactLookUp", spec := "fnExactLookUp", unfollowed := true, recurses := true, apart := false, narrowed := true }
def FnExactLookUpUptoSaid : Prop := fnExactLookUpUptoRow.holds Try.pinned (OpenSpec.upto fnExactLookUpSpec)

/-- 'laws.FnExactRevalue', WHERE WHAT IT READS IS OF BULK AT MOST 1048576: true; the input reads as it did. -/
def fnExactRevalueUptoRow : OpenClaim := { program := "ythclogcbiekfeaa", sum := "d469f10875dc5a66e6166806c35504d859ae628ce9b1101ed96aee585393226b", func := "loop.example/namedflags/laws.FnExactRevalue", spec := "fnExactRevalue", unfollowed := true, recurses := true, apart := false, narrowed := true }
def FnExactRevalueUptoSaid : Prop := fnExactRevalueUptoRow.holds Try.pinned (OpenSpec.upto fnExactRevalueSpec)

end Rows
end Go.Proofs.Ythclogcbiekfeaa
