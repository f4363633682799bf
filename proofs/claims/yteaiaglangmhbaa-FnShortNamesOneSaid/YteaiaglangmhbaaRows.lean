/-
  No cell of these rows narrows 'for every input' (looked for: loops, veiled, ifaces, maps, wideKeys, modest, calm, conditions, laid).
  DERIVED. THE GIVEN ROWS OF THIS SEAT. 7 by the template 'for every input the law returns true; each argument reads behind the call as it read before'; 0 by the template 'total and deterministic' (their statements: YteaiaglangmhbaaTotals.lean).
  GIVEN WITH THE SEED: the statements are not yours to turn. If you find one false, say at which input.
  Laid BY PROGRAM, IN A SANDBOX (cutbox-rows.mjs): the forced cells as the released guide's own fill.sh prints them over the translation a8a06c6e94d5ce73… (all of the seat's roots in one cut). By AI agents, Wed Nov 11 2026. No macro, syntax, notation, axiom, sorry.
-/
import Derived.Test.YteaiaglangmhbaaChecked
import GoSem.Claim
import GoSem.ClaimJoined
import GoSem.ClaimMapViews
import Derived.JoinedTies
import Derived.KernelRfl
namespace Go.Proofs.Yteaiaglangmhbaa
/- THE CELL 'sum', in the pinned program and in every row, IS THE sha256 OF THE DUMP (.gsa) THAT YteaiaglangmhbaaProg.lean LOADS. Nothing in Lean hashes anything: it is a label: what it is worth is what the hold of that sum in a sandbox is worth. -/
noncomputable def Try.pinned : Pinned := { name := "yteaiaglangmhbaa", sum := "a8a06c6e94d5ce737ca5bd948d4923e6f42f8b8d1909c75cdeb8a55b65a42d98", checked := Try.checked }
namespace Rows
def none {H : Type} : Left H := { results := [], args := [] }

/-- 'laws.FnExactFittingNames': WHATEVER THE INPUT: true; the input reads as it did. -/
def fnExactFittingNamesSpec : ChangeSpec := { name := "fnExactFittingNames", fn := fun _ => fun
  | [d1, d2] => { results := [.lit (.bool true)], args := [d1, d2] }
  | _ => none }
def fnExactFittingNamesRow : OpenClaim := { program := "yteaiaglangmhbaa", sum := "a8a06c6e94d5ce737ca5bd948d4923e6f42f8b8d1909c75cdeb8a55b65a42d98", func := "loop.example/namedflags/laws.FnExactFittingNames", spec := "fnExactFittingNames", unfollowed := true, recurses := true, apart := false }
def FnExactFittingNamesSaid : Prop := fnExactFittingNamesRow.holds Try.pinned (OpenSpec.ofChange fnExactFittingNamesSpec)

/-- ITS FALSE NEIGHBOUR: 'it returns false'. Refute it at one input. -/
def fnExactFittingNamesWrong : ChangeSpec := { name := "fnExactFittingNames", fn := fun _ => fun
  | [d1, d2] => { results := [.lit (.bool false)], args := [d1, d2] }
  | _ => none }
def FnExactFittingNamesWrongFalsely : Prop := fnExactFittingNamesRow.holds Try.pinned (OpenSpec.ofChange fnExactFittingNamesWrong)

/-- 'laws.FnExactShortNames': WHATEVER THE INPUT: true; the input reads as it did. -/
def fnExactShortNamesSpec : ChangeSpec := { name := "fnExactShortNames", fn := fun _ => fun
  | [d1, d2] => { results := [.lit (.bool true)], args := [d1, d2] }
  | _ => none }
def fnExactShortNamesRow : OpenClaim := { program := "yteaiaglangmhbaa", sum := "a8a06c6e94d5ce737ca5bd948d4923e6f42f8b8d1909c75cdeb8a55b65a42d98", func := "loop.example/namedflags/laws.FnExactShortNames", spec := "fnExactShortNames", unfollowed := true, recurses := true, apart := false }
def FnExactShortNamesSaid : Prop := fnExactShortNamesRow.holds Try.pinned (OpenSpec.ofChange fnExactShortNamesSpec)

/-- ITS FALSE NEIGHBOUR: 'it returns false'. Refute it at one input. -/
def fnExactShortNamesWrong : ChangeSpec := { name := "fnExactShortNames", fn := fun _ => fun
  | [d1, d2] => { results := [.lit (.bool false)], args := [d1, d2] }
  | _ => none }
def FnExactShortNamesWrongFalsely : Prop := fnExactShortNamesRow.holds Try.pinned (OpenSpec.ofChange fnExactShortNamesWrong)

/-- 'laws.FnExactTableOf': WHATEVER THE INPUT: true; the input reads as it did. -/
def fnExactTableOfSpec : ChangeSpec := { name := "fnExactTableOf", fn := fun _ => fun
  | [d1, d2] => { results := [.lit (.bool true)], args := [d1, d2] }
  | _ => none }
def fnExactTableOfRow : OpenClaim := { program := "yteaiaglangmhbaa", sum := "a8a06c6e94d5ce737ca5bd948d4923e6f42f8b8d1909c75cdeb8a55b65a42d98", func := "loop.example/namedflags/laws.FnExactTableOf", spec := "fnExactTableOf", apart := false }
def FnExactTableOfSaid : Prop := fnExactTableOfRow.holds Try.pinned (OpenSpec.ofChange fnExactTableOfSpec)

/-- ITS FALSE NEIGHBOUR: 'it returns false'. Refute it at one input. -/
def fnExactTableOfWrong : ChangeSpec := { name := "fnExactTableOf", fn := fun _ => fun
  | [d1, d2] => { results := [.lit (.bool false)], args := [d1, d2] }
  | _ => none }
def FnExactTableOfWrongFalsely : Prop := fnExactTableOfRow.holds Try.pinned (OpenSpec.ofChange fnExactTableOfWrong)

/-- 'laws.FnFittingNames': WHATEVER THE INPUT: true; the input reads as it did. -/
def fnFittingNamesSpec : ChangeSpec := { name := "fnFittingNames", fn := fun _ => fun
  | [d] => { results := [.lit (.bool true)], args := [d] }
  | _ => none }
def fnFittingNamesRow : OpenClaim := { program := "yteaiaglangmhbaa", sum := "a8a06c6e94d5ce737ca5bd948d4923e6f42f8b8d1909c75cdeb8a55b65a42d98", func := "loop.example/namedflags/laws.FnFittingNames", spec := "fnFittingNames", unfollowed := true, recurses := true, apart := false }
def FnFittingNamesSaid : Prop := fnFittingNamesRow.holds Try.pinned (OpenSpec.ofChange fnFittingNamesSpec)

/-- ITS FALSE NEIGHBOUR: 'it returns false'. Refute it at one input. -/
def fnFittingNamesWrong : ChangeSpec := { name := "fnFittingNames", fn := fun _ => fun
  | [d] => { results := [.lit (.bool false)], args := [d] }
  | _ => none }
def FnFittingNamesWrongFalsely : Prop := fnFittingNamesRow.holds Try.pinned (OpenSpec.ofChange fnFittingNamesWrong)

/-- 'laws.FnShortNames': WHATEVER THE INPUT: true; the input reads as it did. -/
def fnShortNamesSpec : ChangeSpec := { name := "fnShortNames", fn := fun _ => fun
  | [d] => { results := [.lit (.bool true)], args := [d] }
  | _ => none }
def fnShortNamesRow : OpenClaim := { program := "yteaiaglangmhbaa", sum := "a8a06c6e94d5ce737ca5bd948d4923e6f42f8b8d1909c75cdeb8a55b65a42d98", func := "loop.example/namedflags/laws.FnShortNames", spec := "fnShortNames", unfollowed := true, recurses := true, apart := false }
def FnShortNamesSaid : Prop := fnShortNamesRow.holds Try.pinned (OpenSpec.ofChange fnShortNamesSpec)

/-- ITS FALSE NEIGHBOUR: 'it returns false'. Refute it at one input. -/
def fnShortNamesWrong : ChangeSpec := { name := "fnShortNames", fn := fun _ => fun
  | [d] => { results := [.lit (.bool false)], args := [d] }
  | _ => none }
def FnShortNamesWrongFalsely : Prop := fnShortNamesRow.holds Try.pinned (OpenSpec.ofChange fnShortNamesWrong)

/-- 'laws.FnShortNamesOne': WHATEVER THE INPUT: true; the input reads as it did. -/
def fnShortNamesOneSpec : ChangeSpec := { name := "fnShortNamesOne", fn := fun _ => fun
  | [d] => { results := [.lit (.bool true)], args := [d] }
  | _ => none }
def fnShortNamesOneRow : OpenClaim := { program := "yteaiaglangmhbaa", sum := "a8a06c6e94d5ce737ca5bd948d4923e6f42f8b8d1909c75cdeb8a55b65a42d98", func := "loop.example/namedflags/laws.FnShortNamesOne", spec := "fnShortNamesOne", unfollowed := true, recurses := true, apart := false }
def FnShortNamesOneSaid : Prop := fnShortNamesOneRow.holds Try.pinned (OpenSpec.ofChange fnShortNamesOneSpec)

/-- ITS FALSE NEIGHBOUR: 'it returns false'. Refute it at one input. -/
def fnShortNamesOneWrong : ChangeSpec := { name := "fnShortNamesOne", fn := fun _ => fun
  | [d] => { results := [.lit (.bool false)], args := [d] }
  | _ => none }
def FnShortNamesOneWrongFalsely : Prop := fnShortNamesOneRow.holds Try.pinned (OpenSpec.ofChange fnShortNamesOneWrong)

/-- 'laws.FnTableOf': WHATEVER THE INPUT: true; the input reads as it did. -/
def fnTableOfSpec : ChangeSpec := { name := "fnTableOf", fn := fun _ => fun
  | [d] => { results := [.lit (.bool true)], args := [d] }
  | _ => none }
def fnTableOfRow : OpenClaim := { program := "yteaiaglangmhbaa", sum := "a8a06c6e94d5ce737ca5bd948d4923e6f42f8b8d1909c75cdeb8a55b65a42d98", func := "loop.example/namedflags/laws.FnTableOf", spec := "fnTableOf", unfollowed := true, recurses := true, apart := false }
def FnTableOfSaid : Prop := fnTableOfRow.holds Try.pinned (OpenSpec.ofChange fnTableOfSpec)

/-- ITS FALSE NEIGHBOUR: 'it returns false'. Refute it at one input. -/
def fnTableOfWrong : ChangeSpec := { name := "fnTableOf", fn := fun _ => fun
  | [d] => { results := [.lit (.bool false)], args := [d] }
  | _ => none }
def FnTableOfWrongFalsely : Prop := fnTableOfRow.holds Try.pinned (OpenSpec.ofChange fnTableOfWrong)

/- THE SECOND FORM. 'bulk': how many values and letters a reading holds, each counted each time it is reached (what is shared counts as often as it is met; a slice's spare places count too). A statement '..UptoSaid' is the law's where the arguments, and the package variables that the reading takes, are together of bulk at most 1048576: NARROWER than '..Said'. Prove '..Said' where nothing that the law and all that it calls make is longer than what came in: it says more and counts as full. Else prove '..UptoSaid'. A law counts once. -/
mutual
def uptoBulk {H : Type} : DataW H → Nat
  | .lit (.string bytes) => bytes.length + 1
  | .lit _ => 1
  | .nil => 1
  | .ptr d => uptoBulk d + 1
  | .slice elems spare => uptoBulkAll elems + uptoBulkAll spare + 1
  | .agg parts => uptoBulkAll parts + 1
  | .iface _ d => uptoBulk d + 1
  | .map entries => uptoBulkEntries entries + 1
  | .held _ => 1
def uptoBulkAll {H : Type} : List (DataW H) → Nat
  | [] => 0
  | d :: r => uptoBulk d + uptoBulkAll r
def uptoBulkEntries {H : Type} : List (Lit × DataW H) → Nat
  | [] => 0
  | x :: r => uptoBulkEntry x + uptoBulkEntries r
def uptoBulkEntry {H : Type} : Lit × DataW H → Nat
  | (.string bytes, d) => bytes.length + uptoBulk d + 1
  | (_, d) => uptoBulk d + 1
 end
def uptoSmall : (H : Type) → List (DataW H) → Bool := fun _ ds => decide (uptoBulkAll ds ≤ 1048576)
def OpenSpec.upto (s : _root_.Go.ChangeSpec) : _root_.Go.OpenSpec := { _root_.Go.OpenSpec.ofChange s with cond := some uptoSmall }

/-- 'laws.FnExactFittingNames', WHERE WHAT IT READS IS OF BULK AT MOST 1048576: true; the input reads as it did. -/
def fnExactFittingNamesUptoRow : OpenClaim := { program := "yteaiaglangmhbaa", sum := "a8a06c6e94d5ce737ca5bd948d4923e6f42f8b8d1909c75cdeb8a55b65a42d98", func := "loop.example/namedflags/laws.FnExactFittingNames", spec := "fnExactFittingNames", unfollowed := true, recurses := true, apart := false, narrowed := true }
def FnExactFittingNamesUptoSaid : Prop := fnExactFittingNamesUptoRow.holds Try.pinned (OpenSpec.upto fnExactFittingNamesSpec)

/-- 'laws.FnExactShortNames', WHERE WHAT IT READS IS OF BULK AT MOST 1048576: true; the input reads as it did. -/
def fnExactShortNamesUptoRow : OpenClaim := { program := "yteaiaglangmhbaa", sum := "a8a06c6e94d5ce737ca5bd948d4923e6f42f8b8d1909c75cdeb8a55b65a42d98", func := "loop.example/namedflags/laws.FnExactShortNames", spec := "fnExactShortNames", unfollowed := true, recurses := true, apart := false, narrowed := true }
def FnExactShortNamesUptoSaid : Prop := fnExactShortNamesUptoRow.holds Try.pinned (OpenSpec.upto fnExactShortNamesSpec)

/-- 'laws.FnExactTableOf', WHERE WHAT IT READS IS OF BULK AT MOST 1048576: true; the input reads as it did. -/
def fnExactTableOfUptoRow : OpenClaim := { program := "yteaiaglangmhbaa", sum := "a8a06c6e94d5ce737ca5bd948d4923e6f42f8b8d1909c75cdeb8a55b65a42d98", func := "loop.example/namedflags/laws.FnExactTableOf", spec := "fnExactTableOf", apart := false, narrowed := true }
def FnExactTableOfUptoSaid : Prop := fnExactTableOfUptoRow.holds Try.pinned (OpenSpec.upto fnExactTableOfSpec)

/-- 'laws.FnFittingNames', WHERE WHAT IT READS IS OF BULK AT MOST 1048576: true; the input reads as it did. -/
def fnFittingNamesUptoRow : OpenClaim := { program := "yteaiaglangmhbaa", sum := "a8a06c6e94d5ce737ca5bd948d4923e6f42f8b8d1909c75cdeb8a55b65a42d98", func := "loop.example/namedflags/laws.FnFittingNames", spec := "fnFittingNames", unfollowed := true, recurses := true, apart := false, narrowed := true }
def FnFittingNamesUptoSaid : Prop := fnFittingNamesUptoRow.holds Try.pinned (OpenSpec.upto fnFittingNamesSpec)

/-- 'laws.FnShortNames', WHERE WHAT IT READS IS OF BULK AT MOST 1048576: true; the input reads as it did. -/
def fnShortNamesUptoRow : OpenClaim := { program := "yteaiaglangmhbaa", sum := "a8a06c6e94d5ce737ca5bd948d4923e6f42f8b8d1909c75cdeb8a55b65a42d98", func := "loop.example/namedflags/laws.FnShortNames", spec := "fnShortNames", unfollowed := true, recurses := true, apart := false, narrowed := true }
def FnShortNamesUptoSaid : Prop := fnShortNamesUptoRow.holds Try.pinned (OpenSpec.upto fnShortNamesSpec)

/-- 'laws.FnShortNamesOne', WHERE WHAT IT READS IS OF BULK AT MOST 1048576: true; the input reads as it did. -/
def fnShortNamesOneUptoRow : OpenClaim := { program := "yteaiaglangmhbaa", sum := "a8a06c6e94d5ce737ca5bd948d4923e6f42f8b8d1909c75cdeb8a55b65a42d98", func := "loop.example/namedflags/laws.FnShortNamesOne", spec := "fnShortNamesOne", unfollowed := true, recurses := true, apart := false, narrowed := true }
def FnShortNamesOneUptoSaid : Prop := fnShortNamesOneUptoRow.holds Try.pinned (OpenSpec.upto fnShortNamesOneSpec)

/-- 'laws.FnTableOf', WHERE WHAT IT READS IS OF BULK AT MOST 1048576: true; the input reads as it did. -/
def fnTableOfUptoRow : OpenClaim := { program := "yteaiaglangmhbaa", sum := "a8a06c6e94d5ce737ca5bd948d4923e6f42f8b8d1909c75cdeb8a55b65a42d98", func := "loop.example/namedflags/laws.FnTableOf", spec := "fnTableOf", unfollowed := true, recurses := true, apart := false, narrowed := true }
def FnTableOfUptoSaid : Prop := fnTableOfUptoRow.holds Try.pinned (OpenSpec.upto fnTableOfSpec)

end Rows
end Go.Proofs.Yteaiaglangmhbaa
