/-
  No cell of these rows narrows 'for every input' (looked for: loops, veiled, ifaces, maps, wideKeys, modest, calm, conditions, laid).
  DERIVED. THE GIVEN ROWS OF THIS SEAT. 4 by the template 'for every input the law returns true; each argument reads behind the call as it read before'; 0 by the template 'total and deterministic' (their statements: YtpmanbmhbfnefaaTotals.lean).
  GIVEN WITH THE SEED: the statements are not yours to turn. If you find one false, say at which input.
  Laid BY PROGRAM, IN A SANDBOX (cutbox-rows.mjs): the forced cells as the released guide's own fill.sh prints them over the translation 13cac7e996f8b0c3… (all of the seat's roots in one cut). By AI agents, Wed Nov 11 2026. No macro, syntax, notation, axiom, sorry.
-/
import Derived.Test.YtpmanbmhbfnefaaChecked
import GoSem.Claim
import GoSem.ClaimJoined
import GoSem.ClaimMapViews
import Derived.JoinedTies
import Derived.KernelRfl
namespace Go.Proofs.Ytpmanbmhbfnefaa
/- THE CELL 'sum', in the pinned program and in every row, IS THE sha256 OF THE DUMP (.gsa) THAT YtpmanbmhbfnefaaProg.lean LOADS. Nothing in Lean hashes anything: it is a label: what it is worth is what the hold of that sum in a sandbox is worth. -/
noncomputable def Try.pinned : Pinned := { name := "ytpmanbmhbfnefaa", sum := "13cac7e996f8b0c3f39d32a33eca31b53db200f5f4b735c262019567110a4a46", checked := Try.checked }
namespace Rows
def none {H : Type} : Left H := { results := [], args := [] }

/-- 'laws.FnExactTableOf': WHATEVER THE INPUT: true; the input reads as it did. -/
def fnExactTableOfSpec : ChangeSpec := { name := "fnExactTableOf", fn := fun _ => fun
  | [d1, d2] => { results := [.lit (.bool true)], args := [d1, d2] }
  | _ => none }
def fnExactTableOfRow : OpenClaim := { program := "ytpmanbmhbfnefaa", sum := "13cac7e996f8b0c3f39d32a33eca31b53db200f5f4b735c262019567110a4a46", func := "loop.example/namedflags/laws.FnExactTableOf", spec := "fnExactTableOf", apart := false }
def FnExactTableOfSaid : Prop := fnExactTableOfRow.holds Try.pinned (OpenSpec.ofChange fnExactTableOfSpec)

/-- ITS FALSE NEIGHBOUR: 'it returns false'. Refute it at one input. -/
def fnExactTableOfWrong : ChangeSpec := { name := "fnExactTableOf", fn := fun _ => fun
  | [d1, d2] => { results := [.lit (.bool false)], args := [d1, d2] }
  | _ => none }
def FnExactTableOfWrongFalsely : Prop := fnExactTableOfRow.holds Try.pinned (OpenSpec.ofChange fnExactTableOfWrong)

/-- 'laws.FnTableOf': WHATEVER THE INPUT: true; the input reads as it did. -/
def fnTableOfSpec : ChangeSpec := { name := "fnTableOf", fn := fun _ => fun
  | [d] => { results := [.lit (.bool true)], args := [d] }
  | _ => none }
def fnTableOfRow : OpenClaim := { program := "ytpmanbmhbfnefaa", sum := "13cac7e996f8b0c3f39d32a33eca31b53db200f5f4b735c262019567110a4a46", func := "loop.example/namedflags/laws.FnTableOf", spec := "fnTableOf", unfollowed := true, recurses := true, apart := false }
def FnTableOfSaid : Prop := fnTableOfRow.holds Try.pinned (OpenSpec.ofChange fnTableOfSpec)

/-- ITS FALSE NEIGHBOUR: 'it returns false'. Refute it at one input. -/
def fnTableOfWrong : ChangeSpec := { name := "fnTableOf", fn := fun _ => fun
  | [d] => { results := [.lit (.bool false)], args := [d] }
  | _ => none }
def FnTableOfWrongFalsely : Prop := fnTableOfRow.holds Try.pinned (OpenSpec.ofChange fnTableOfWrong)

/-- 'laws.FnExactGreatestArms': WHATEVER THE INPUT: true; the input reads as it did. -/
def fnExactGreatestArmsSpec : ChangeSpec := { name := "fnExactGreatestArms", fn := fun _ => fun
  | [d1, d2] => { results := [.lit (.bool true)], args := [d1, d2] }
  | _ => none }
def fnExactGreatestArmsRow : OpenClaim := { program := "ytpmanbmhbfnefaa", sum := "13cac7e996f8b0c3f39d32a33eca31b53db200f5f4b735c262019567110a4a46", func := "loop.example/namedflags/laws.FnExactGreatestArms", spec := "fnExactGreatestArms", unfollowed := true, recurses := true, apart := false }
def FnExactGreatestArmsSaid : Prop := fnExactGreatestArmsRow.holds Try.pinned (OpenSpec.ofChange fnExactGreatestArmsSpec)

/-- ITS FALSE NEIGHBOUR: 'it returns false'. Refute it at one input. -/
def fnExactGreatestArmsWrong : ChangeSpec := { name := "fnExactGreatestArms", fn := fun _ => fun
  | [d1, d2] => { results := [.lit (.bool false)], args := [d1, d2] }
  | _ => none }
def FnExactGreatestArmsWrongFalsely : Prop := fnExactGreatestArmsRow.holds Try.pinned (OpenSpec.ofChange fnExactGreatestArmsWrong)

/-- 'laws.FnGreatestArms': WHATEVER THE INPUT: true; the input reads as it did. -/
def fnGreatestArmsSpec : ChangeSpec := { name := "fnGreatestArms", fn := fun _ => fun
  | [d] => { results := [.lit (.bool true)], args := [d] }
  | _ => none }
def fnGreatestArmsRow : OpenClaim := { program := "ytpmanbmhbfnefaa", sum := "13cac7e996f8b0c3f39d32a33eca31b53db200f5f4b735c262019567110a4a46", func := "loop.example/namedflags/laws.FnGreatestArms", spec := "fnGreatestArms", unfollowed := true, recurses := true, apart := false }
def FnGreatestArmsSaid : Prop := fnGreatestArmsRow.holds Try.pinned (OpenSpec.ofChange fnGreatestArmsSpec)

/-- ITS FALSE NEIGHBOUR: 'it returns false'. Refute it at one input. -/
def fnGreatestArmsWrong : ChangeSpec := { name := "fnGreatestArms", fn := fun _ => fun
  | [d] => { results := [.lit (.bool false)], args := [d] }
  | _ => none }
def FnGreatestArmsWrongFalsely : Prop := fnGreatestArmsRow.holds Try.pinned (OpenSpec.ofChange fnGreatestArmsWrong)

/- THE SECOND FORM. 'bulk': how many values and letters a reading holds, each counted each time it is reached (what is shared counts as often as it is met; a slice's spare places count too). A statement '..UptoSaid' is the law's where the arguments, and the package variables that the reading takes, are together of bulk at most 1048576: NARROWER than '..Said'. Prove '..Said' where nothing that the law and all that it calls make is longer than what came in: it says more and counts as full. Else prove '..UptoSaid'. A law counts once. -/
mutual
def uptoBulk {H : Type} : DataW H → Nat
  | .lit (.string bytes) => bytes.length + 1
  | .lit _ => 1
  | .nil => 1
  | .ptr d => uptoBulk d + 1
  | .slice elems spare => uptoBulkAll elems + uptoBulkAll spare + 1
  | .agg parts => uptoBulkAll parts + 1
  | .iface _ d => uptoBulk d + 1
  | .map entries => uptoBulkEntries entries + 1
  | .held _ => 1
def uptoBulkAll {H : Type} : List (DataW H) → Nat
  | [] => 0
  | d :: r => uptoBulk d + uptoBulkAll r
def uptoBulkEntries {H : Type} : List (Lit × DataW H) → Nat
  | [] => 0
  | x :: r => uptoBulkEntry x + uptoBulkEntries r
def uptoBulkEntry {H : Type} : Lit × DataW H → Nat
  | (.string bytes, d) => bytes.length + uptoBulk d + 1
  | (_, d) => uptoBulk d + 1
 end
def uptoSmall : (H : Type) → List (DataW H) → Bool := fun _ ds => decide (uptoBulkAll ds ≤ 1048576)
def OpenSpec.upto (s : _root_.Go.ChangeSpec) : _root_.Go.OpenSpec := { _root_.Go.OpenSpec.ofChange s with cond := some uptoSmall }

/-- 'laws.FnExactTableOf', WHERE WHAT IT READS IS OF BULK AT MOST 1048576: true; the input reads as it did. -/
def fnExactTableOfUptoRow : OpenClaim := { program := "ytpmanbmhbfnefaa", sum := "13cac7e996f8b0c3f39d32a33eca31b53db200f5f4b735c262019567110a4a46", func := "loop.example/namedflags/laws.FnExactTableOf", spec := "fnExactTableOf", apart := false, narrowed := true }
def FnExactTableOfUptoSaid : Prop := fnExactTableOfUptoRow.holds Try.pinned (OpenSpec.upto fnExactTableOfSpec)

/-- 'laws.FnTableOf', WHERE WHAT IT READS IS OF BULK AT MOST 1048576: true; the input reads as it did. -/
def fnTableOfUptoRow : OpenClaim := { program := "ytpmanbmhbfnefaa", sum := "13cac7e996f8b0c3f39d32a33eca31b53db200f5f4b735c262019567110a4a46", func := "loop.example/namedflags/laws.FnTableOf", spec := "fnTableOf", unfollowed := true, recurses := true, apart := false, narrowed := true }
def FnTableOfUptoSaid : Prop := fnTableOfUptoRow.holds Try.pinned (OpenSpec.upto fnTableOfSpec)

/-- 'laws.FnExactGreatestArms', WHERE WHAT IT READS IS OF BULK AT MOST 1048576: true; the input reads as it did. -/
def fnExactGreatestArmsUptoRow : OpenClaim := { program := "ytpmanbmhbfnefaa", sum := "13cac7e996f8b0c3f39d32a33eca31b53db200f5f4b735c262019567110a4a46", func := "loop.example/namedflags/laws.FnExactGreatestArms", spec := "fnExactGreatestArms", unfollowed := true, recurses := true, apart := false, narrowed := true }
def FnExactGreatestArmsUptoSaid : Prop := fnExactGreatestArmsUptoRow.holds Try.pinned (OpenSpec.upto fnExactGreatestArmsSpec)

/-- 'laws.FnGreatestArms', WHERE WHAT IT READS IS OF BULK AT MOST 1048576: true; the input reads as it did. -/
def fnGreatestArmsUptoRow : OpenClaim := { program := "ytpmanbmhbfnefaa", sum := "13cac7e996f8b0c3f39d32a33eca31b53db200f5f4b735c262019567110a4a46", func := "loop.example/namedflags/laws.FnGreatestArms", spec := "fnGreatestArms", unfollowed := true, recurses := true, apart := false, narrowed := true }
def FnGreatestArmsUptoSaid : Prop := fnGreatestArmsUptoRow.holds Try.pinned (OpenSpec.upto fnGreatestArmsSpec)

end Rows
end Go.Proofs.Ytpmanbmhbfnefaa
