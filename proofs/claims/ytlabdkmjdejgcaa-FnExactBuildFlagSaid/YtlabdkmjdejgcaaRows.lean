/-
  No cell of these rows narrows 'for every input' (looked for: loops, veiled, ifaces, maps, wideKeys, modest, calm, conditions, laid).
  DERIVED. THE GIVEN ROWS OF THIS SEAT. 5 by the template 'for every input the law returns true; each argument reads behind the call as it read before'; 0 by the template 'total and deterministic' (their statements: YtlabdkmjdejgcaaTotals.lean).
  GIVEN WITH THE SEED: the statements are not yours to turn. If you find one false, say at which input.
  Laid BY PROGRAM, IN A SANDBOX (cutbox-rows.mjs): the forced cells as the released guide's own fill.sh prints them over the translation a734cefcef622f60… (all of the seat's roots in one cut). By AI agents, Wed Nov 11 2026. No macro, syntax, notation, axiom, sorry.
-/
import Derived.Test.YtlabdkmjdejgcaaChecked
import GoSem.Claim
import GoSem.ClaimJoined
import GoSem.ClaimMapViews
import Derived.JoinedTies
import Derived.KernelRfl
namespace Go.Proofs.Ytlabdkmjdejgcaa
/- THE CELL 'sum', in the pinned program and in every row, IS THE sha256 OF THE DUMP (.gsa) THAT YtlabdkmjdejgcaaProg.lean LOADS. Nothing in Lean hashes anything: it is a label: what it is worth is what the hold of that sum in a sandbox is worth. -/
noncomputable def Try.pinned : Pinned := { name := "ytlabdkmjdejgcaa", sum := "a734cefcef622f60f1e5a6851c327566b29437d14a7ea51398fc2a2f81f47052", checked := Try.checked }
namespace Rows
def none {H : Type} : Left H := { results := [], args := [] }

/-- 'laws.FnExactFittingNames': WHATEVER THE INPUT: true; the input reads as it did. -/
def fnExactFittingNamesSpec : ChangeSpec := { name := "fnExactFittingNames", fn := fun _ => fun
  | [d1, d2] => { results := [.lit (.bool true)], args := [d1, d2] }
  | _ => none }
def fnExactFittingNamesRow : OpenClaim := { program := "ytlabdkmjdejgcaa", sum := "a734cefcef622f60f1e5a6851c327566b29437d14a7ea51398fc2a2f81f47052", func := "loop.example/namedflags/laws.FnExactFittingNames", spec := "fnExactFittingNames", unfollowed := true, recurses := true, apart := false }
def FnExactFittingNamesSaid : Prop := fnExactFittingNamesRow.holds Try.pinned (OpenSpec.ofChange fnExactFittingNamesSpec)

/-- ITS FALSE NEIGHBOUR: 'it returns false'. Refute it at one input. -/
def fnExactFittingNamesWrong : ChangeSpec := { name := "fnExactFittingNames", fn := fun _ => fun
  | [d1, d2] => { results := [.lit (.bool false)], args := [d1, d2] }
  | _ => none }
def FnExactFittingNamesWrongFalsely : Prop := fnExactFittingNamesRow.holds Try.pinned (OpenSpec.ofChange fnExactFittingNamesWrong)

/-- 'laws.FnExactShortNames': WHATEVER THE INPUT: true; the input reads as it did. -/
def fnExactShortNamesSpec : ChangeSpec := { name := "fnExactShortNames", fn := fun _ => fun
  | [d1, d2] => { results := [.lit (.bool true)], args := [d1, d2] }
  | _ => none }
def fnExactShortNamesRow : OpenClaim := { program := "ytlabdkmjdejgcaa", sum := "a734cefcef622f60f1e5a6851c327566b29437d14a7ea51398fc2a2f81f47052", func := "loop.example/namedflags/laws.FnExactShortNames", spec := "fnExactShortNames", unfollowed := true, recurses := true, apart := false }
def FnExactShortNamesSaid : Prop := fnExactShortNamesRow.holds Try.pinned (OpenSpec.ofChange fnExactShortNamesSpec)

/-- ITS FALSE NEIGHBOUR: 'it returns false'. Refute it at one input. -/
def fnExactShortNamesWrong : ChangeSpec := { name := "fnExactShortNames", fn := fun _ => fun
  | [d1, d2] => { results := [.lit (.bool false)], args := [d1, d2] }
  | _ => none }
def FnExactShortNamesWrongFalsely : Prop := fnExactShortNamesRow.holds Try.pinned (OpenSpec.ofChange fnExactShortNamesWrong)

/-- 'laws.FnExactExactName': WHATEVER THE INPUT: true; the input reads as it did. -/
def fnExactExactNameSpec : ChangeSpec := { name := "fnExactExactName", fn := fun _ => fun
  | [d1, d2] => { results := [.lit (.bool true)], args := [d1, d2] }
  | _ => none }
def fnExactExactNameRow : OpenClaim := { program := "ytlabdkmjdejgcaa", sum := "a734cefcef622f60f1e5a6851c327566b29437d14a7ea51398fc2a2f81f47052", func := "loop.example/namedflags/laws.FnExactExactName", spec := "fnExactExactName", apart := false }
def FnExactExactNameSaid : Prop := fnExactExactNameRow.holds Try.pinned (OpenSpec.ofChange fnExactExactNameSpec)

/-- ITS FALSE NEIGHBOUR: 'it returns false'. Refute it at one input. -/
def fnExactExactNameWrong : ChangeSpec := { name := "fnExactExactName", fn := fun _ => fun
  | [d1, d2] => { results := [.lit (.bool false)], args := [d1, d2] }
  | _ => none }
def FnExactExactNameWrongFalsely : Prop := fnExactExactNameRow.holds Try.pinned (OpenSpec.ofChange fnExactExactNameWrong)

/-- 'laws.FnExactBuildFlag': WHATEVER THE INPUT: true; the input reads as it did. -/
def fnExactBuildFlagSpec : ChangeSpec := { name := "fnExactBuildFlag", fn := fun _ => fun
  | [d1, d2] => { results := [.lit (.bool true)], args := [d1, d2] }
  | _ => none }
def fnExactBuildFlagRow : OpenClaim := { program := "ytlabdkmjdejgcaa", sum := "a734cefcef622f60f1e5a6851c327566b29437d14a7ea51398fc2a2f81f47052", func := "loop.example/namedflags/laws.FnExactBuildFlag", spec := "fnExactBuildFlag", apart := false }
def FnExactBuildFlagSaid : Prop := fnExactBuildFlagRow.holds Try.pinned (OpenSpec.ofChange fnExactBuildFlagSpec)

/-- ITS FALSE NEIGHBOUR: 'it returns false'. Refute it at one input. -/
def fnExactBuildFlagWrong : ChangeSpec := { name := "fnExactBuildFlag", fn := fun _ => fun
  | [d1, d2] => { results := [.lit (.bool false)], args := [d1, d2] }
  | _ => none }
def FnExactBuildFlagWrongFalsely : Prop := fnExactBuildFlagRow.holds Try.pinned (OpenSpec.ofChange fnExactBuildFlagWrong)

/-- 'laws.FnExactTurnChanges': WHATEVER THE INPUT: true; the input reads as it did. -/
def fnExactTurnChangesSpec : ChangeSpec := { name := "fnExactTurnChanges", fn := fun _ => fun
  | [d] => { results := [.lit (.bool true)], args := [d] }
  | _ => none }
def fnExactTurnChangesRow : OpenClaim := { program := "ytlabdkmjdejgcaa", sum := "a734cefcef622f60f1e5a6851c327566b29437d14a7ea51398fc2a2f81f47052", func := "loop.example/namedflags/laws.FnExactTurnChanges", spec := "fnExactTurnChanges", unfollowed := true, recurses := true, apart := false }
def FnExactTurnChangesSaid : Prop := fnExactTurnChangesRow.holds Try.pinned (OpenSpec.ofChange fnExactTurnChangesSpec)

/-- ITS FALSE NEIGHBOUR: 'it returns false'. Refute it at one input. -/
def fnExactTurnChangesWrong : ChangeSpec := { name := "fnExactTurnChanges", fn := fun _ => fun
  | [d] => { results := [.lit (.bool false)], args := [d] }
  | _ => none }
def FnExactTurnChangesWrongFalsely : Prop := fnExactTurnChangesRow.holds Try.pinned (OpenSpec.ofChange fnExactTurnChangesWrong)

/- THE SECOND FORM. 'bulk': how many values and letters a reading holds, each counted each time it is reached (what is shared counts as often as it is met; a slice's spare places count too). A statement '..UptoSaid' is the law's where the arguments, and the package variables that the reading takes, are together of bulk at most 1048576: NARROWER than '..Said'. Prove '..Said' where nothing that the law and all that it calls make is longer than what came in: it says more and counts as full. Else prove '..UptoSaid'. A law counts once. -/
mutual
def uptoBulk {H : Type} : DataW H → Nat
  | .lit (.string bytes) => bytes.length + 1
  | .lit _ => 1
  | .nil => 1
  | .ptr d => uptoBulk d + 1
  | .slice elems spare => uptoBulkAll elems + uptoBulkAll spare + 1
  | .agg parts => uptoBulkAll parts + 1
  | .iface _ d => uptoBulk d + 1
  | .map entries => uptoBulkEntries entries + 1
  | .held _ => 1
def uptoBulkAll {H : Type} : List (DataW H) → Nat
  | [] => 0
  | d :: r => uptoBulk d + uptoBulkAll r
def uptoBulkEntries {H : Type} : List (Lit × DataW H) → Nat
  | [] => 0
  | x :: r => uptoBulkEntry x + uptoBulkEntries r
def uptoBulkEntry {H : Type} : Lit × DataW H → Nat
  | (.string bytes, d) => bytes.length + uptoBulk d + 1
  | (_, d) => uptoBulk d + 1
 end
def uptoSmall : (H : Type) → List (DataW H) → Bool := fun _ ds => decide (uptoBulkAll ds ≤ 1048576)
def OpenSpec.upto (s : _root_.Go.ChangeSpec) : _root_.Go.OpenSpec := { _root_.Go.OpenSpec.ofChange s with cond := some uptoSmall }

/-- 'laws.FnExactFittingNames', WHERE WHAT IT READS IS OF BULK AT MOST 1048576: true; the input reads as it did. -/
def fnExactFittingNamesUptoRow : OpenClaim := { program := "ytlabdkmjdejgcaa", sum := "a734cefcef622f60f1e5a6851c327566b29437d14a7ea51398fc2a2f81f47052", func := "loop.example/namedflags/laws.FnExactFittingNames", spec := "fnExactFittingNames", unfollowed := true, recurses := true, apart := false, narrowed := true }
def FnExactFittingNamesUptoSaid : Prop := fnExactFittingNamesUptoRow.holds Try.pinned (OpenSpec.upto fnExactFittingNamesSpec)

/-- 'laws.FnExactShortNames', WHERE WHAT IT READS IS OF BULK AT MOST 1048576: true; the input reads as it did. -/
def fnExactShortNamesUptoRow : OpenClaim := { program := "ytlabdkmjdejgcaa", sum := "a734cefcef622f60f1e5a6851c327566b29437d14a7ea51398fc2a2f81f47052", func := "loop.example/namedflags/laws.FnExactShortNames", spec := "fnExactShortNames", unfollowed := true, recurses := true, apart := false, narrowed := true }
def FnExactShortNamesUptoSaid : Prop := fnExactShortNamesUptoRow.holds Try.pinned (OpenSpec.upto fnExactShortNamesSpec)

/-- 'laws.FnExactExactName', WHERE WHAT IT READS IS OF BULK AT MOST 1048576: true; the input reads as it did. -/
def fnExactExactNameUptoRow : OpenClaim := { program := "ytlabdkmjdejgcaa", sum := "a734cefcef622f60f1e5a6851c327566b29437d14a7ea51398fc2a2f81f47052", func := "loop.example/namedflags/laws.FnExactExactName", spec := "fnExactExactName", apart := false, narrowed := true }
def FnExactExactNameUptoSaid : Prop := fnExactExactNameUptoRow.holds Try.pinned (OpenSpec.upto fnExactExactNameSpec)

/-- 'laws.FnExactBuildFlag', WHERE WHAT IT READS IS OF BULK AT MOST 1048576: true; the input reads as it did. -/
def fnExactBuildFlagUptoRow : OpenClaim := { program := "ytlabdkmjdejgcaa", sum := "a734cefcef622f60f1e5a6851c327566b29437d14a7ea51398fc2a2f81f47052", func := "loop.example/namedflags/laws.FnExactBuildFlag", spec := "fnExactBuildFlag", apart := false, narrowed := true }
def FnExactBuildFlagUptoSaid : Prop := fnExactBuildFlagUptoRow.holds Try.pinned (OpenSpec.upto fnExactBuildFlagSpec)

/-- 'laws.FnExactTurnChanges', WHERE WHAT IT READS IS OF BULK AT MOST 1048576: true; the input reads as it did. -/
def fnExactTurnChangesUptoRow : OpenClaim := { program := "ytlabdkmjdejgcaa", sum := "a734cefcef622f60f1e5a6851c327566b29437d14a7ea51398fc2a2f81f47052", func := "loop.example/namedflags/laws.FnExactTurnChanges", spec := "fnExactTurnChanges", unfollowed := true, recurses := true, apart := false, narrowed := true }
def FnExactTurnChangesUptoSaid : Prop := fnExactTurnChangesUptoRow.holds Try.pinned (OpenSpec.upto fnExactTurnChangesSpec)

end Rows
end Go.Proofs.Ytlabdkmjdejgcaa
