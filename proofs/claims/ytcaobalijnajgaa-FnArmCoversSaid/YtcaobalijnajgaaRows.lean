/-
  No cell of these rows narrows 'for every input' (looked for: loops, veiled, ifaces, maps, wideKeys, modest, calm, conditions, laid).
  DERIVED. THE GIVEN ROWS OF THIS SEAT. 8 by the template 'for every input the law returns true; each argument reads behind the call as it read before'; 0 by the template 'total and deterministic' (their statements: YtcaobalijnajgaaTotals.lean).
  GIVEN WITH THE SEED: the statements are not yours to turn. If you find one false, say at which input.
  Laid BY PROGRAM, IN A SANDBOX (cutbox-rows.mjs): the forced cells as the released guide's own fill.sh prints them over the translation d6ac4c56b10455b8… (all of the seat's roots in one cut). By AI agents, Wed Nov 11 2026. No macro, syntax, notation, axiom, sorry.
-/
import Derived.Test.YtcaobalijnajgaaChecked
import GoSem.Claim
import GoSem.ClaimJoined
import GoSem.ClaimMapViews
import Derived.JoinedTies
import Derived.KernelRfl
namespace Go.Proofs.Ytcaobalijnajgaa
/- THE CELL 'sum', in the pinned program and in every row, IS THE sha256 OF THE DUMP (.gsa) THAT YtcaobalijnajgaaProg.lean LOADS. Nothing in Lean hashes anything: it is a label: what it is worth is what the hold of that sum in a sandbox is worth. -/
noncomputable def Try.pinned : Pinned := { name := "ytcaobalijnajgaa", sum := "d6ac4c56b10455b8c6c353c8b3ef53522d85b0743f67f4813ce2c210e0c1a64a", checked := Try.checked }
namespace Rows
def none {H : Type} : Left H := { results := [], args := [] }

/-- 'laws.FnValidArm': WHATEVER THE INPUT: true; the input reads as it did. -/
def fnValidArmSpec : ChangeSpec := { name := "fnValidArm", fn := fun _ => fun
  | [d] => { results := [.lit (.bool true)], args := [d] }
  | _ => none }
def fnValidArmRow : OpenClaim := { program := "ytcaobalijnajgaa", sum := "d6ac4c56b10455b8c6c353c8b3ef53522d85b0743f67f4813ce2c210e0c1a64a", func := "loop.example/namedflags/laws.FnValidArm", spec := "fnValidArm", apart := false }
def FnValidArmSaid : Prop := fnValidArmRow.holds Try.pinned (OpenSpec.ofChange fnValidArmSpec)

/-- ITS FALSE NEIGHBOUR: 'it returns false'. Refute it at one input. -/
def fnValidArmWrong : ChangeSpec := { name := "fnValidArm", fn := fun _ => fun
  | [d] => { results := [.lit (.bool false)], args := [d] }
  | _ => none }
def FnValidArmWrongFalsely : Prop := fnValidArmRow.holds Try.pinned (OpenSpec.ofChange fnValidArmWrong)

/-- 'laws.FnMatchArm': WHATEVER THE INPUT: true; the input reads as it did. -/
def fnMatchArmSpec : ChangeSpec := { name := "fnMatchArm", fn := fun _ => fun
  | [d] => { results := [.lit (.bool true)], args := [d] }
  | _ => none }
def fnMatchArmRow : OpenClaim := { program := "ytcaobalijnajgaa", sum := "d6ac4c56b10455b8c6c353c8b3ef53522d85b0743f67f4813ce2c210e0c1a64a", func := "loop.example/namedflags/laws.FnMatchArm", spec := "fnMatchArm", unfollowed := true, recurses := true, apart := false }
def FnMatchArmSaid : Prop := fnMatchArmRow.holds Try.pinned (OpenSpec.ofChange fnMatchArmSpec)

/-- ITS FALSE NEIGHBOUR: 'it returns false'. Refute it at one input. -/
def fnMatchArmWrong : ChangeSpec := { name := "fnMatchArm", fn := fun _ => fun
  | [d] => { results := [.lit (.bool false)], args := [d] }
  | _ => none }
def FnMatchArmWrongFalsely : Prop := fnMatchArmRow.holds Try.pinned (OpenSpec.ofChange fnMatchArmWrong)

/-- 'laws.FnArmsMeet': WHATEVER THE INPUT: true; the input reads as it did. -/
def fnArmsMeetSpec : ChangeSpec := { name := "fnArmsMeet", fn := fun _ => fun
  | [d] => { results := [.lit (.bool true)], args := [d] }
  | _ => none }
def fnArmsMeetRow : OpenClaim := { program := "ytcaobalijnajgaa", sum := "d6ac4c56b10455b8c6c353c8b3ef53522d85b0743f67f4813ce2c210e0c1a64a", func := "loop.example/namedflags/laws.FnArmsMeet", spec := "fnArmsMeet", unfollowed := true, recurses := true, apart := false }
def FnArmsMeetSaid : Prop := fnArmsMeetRow.holds Try.pinned (OpenSpec.ofChange fnArmsMeetSpec)

/-- ITS FALSE NEIGHBOUR: 'it returns false'. Refute it at one input. -/
def fnArmsMeetWrong : ChangeSpec := { name := "fnArmsMeet", fn := fun _ => fun
  | [d] => { results := [.lit (.bool false)], args := [d] }
  | _ => none }
def FnArmsMeetWrongFalsely : Prop := fnArmsMeetRow.holds Try.pinned (OpenSpec.ofChange fnArmsMeetWrong)

/-- 'laws.FnArmCovers': WHATEVER THE INPUT: true; the input reads as it did. -/
def fnArmCoversSpec : ChangeSpec := { name := "fnArmCovers", fn := fun _ => fun
  | [d] => { results := [.lit (.bool true)], args := [d] }
  | _ => none }
def fnArmCoversRow : OpenClaim := { program := "ytcaobalijnajgaa", sum := "d6ac4c56b10455b8c6c353c8b3ef53522d85b0743f67f4813ce2c210e0c1a64a", func := "loop.example/namedflags/laws.FnArmCovers", spec := "fnArmCovers", unfollowed := true, recurses := true, apart := false }
def FnArmCoversSaid : Prop := fnArmCoversRow.holds Try.pinned (OpenSpec.ofChange fnArmCoversSpec)

/-- ITS FALSE NEIGHBOUR: 'it returns false'. Refute it at one input. -/
def fnArmCoversWrong : ChangeSpec := { name := "fnArmCovers", fn := fun _ => fun
  | [d] => { results := [.lit (.bool false)], args := [d] }
  | _ => none }
def FnArmCoversWrongFalsely : Prop := fnArmCoversRow.holds Try.pinned (OpenSpec.ofChange fnArmCoversWrong)

/-- 'laws.FnFirstArm': WHATEVER THE INPUT: true; the input reads as it did. -/
def fnFirstArmSpec : ChangeSpec := { name := "fnFirstArm", fn := fun _ => fun
  | [d] => { results := [.lit (.bool true)], args := [d] }
  | _ => none }
def fnFirstArmRow : OpenClaim := { program := "ytcaobalijnajgaa", sum := "d6ac4c56b10455b8c6c353c8b3ef53522d85b0743f67f4813ce2c210e0c1a64a", func := "loop.example/namedflags/laws.FnFirstArm", spec := "fnFirstArm", unfollowed := true, recurses := true, apart := false }
def FnFirstArmSaid : Prop := fnFirstArmRow.holds Try.pinned (OpenSpec.ofChange fnFirstArmSpec)

/-- ITS FALSE NEIGHBOUR: 'it returns false'. Refute it at one input. -/
def fnFirstArmWrong : ChangeSpec := { name := "fnFirstArm", fn := fun _ => fun
  | [d] => { results := [.lit (.bool false)], args := [d] }
  | _ => none }
def FnFirstArmWrongFalsely : Prop := fnFirstArmRow.holds Try.pinned (OpenSpec.ofChange fnFirstArmWrong)

/-- 'laws.FnCountArm': WHATEVER THE INPUT: true; the input reads as it did. -/
def fnCountArmSpec : ChangeSpec := { name := "fnCountArm", fn := fun _ => fun
  | [d] => { results := [.lit (.bool true)], args := [d] }
  | _ => none }
def fnCountArmRow : OpenClaim := { program := "ytcaobalijnajgaa", sum := "d6ac4c56b10455b8c6c353c8b3ef53522d85b0743f67f4813ce2c210e0c1a64a", func := "loop.example/namedflags/laws.FnCountArm", spec := "fnCountArm", unfollowed := true, recurses := true, apart := false }
def FnCountArmSaid : Prop := fnCountArmRow.holds Try.pinned (OpenSpec.ofChange fnCountArmSpec)

/-- ITS FALSE NEIGHBOUR: 'it returns false'. Refute it at one input. -/
def fnCountArmWrong : ChangeSpec := { name := "fnCountArm", fn := fun _ => fun
  | [d] => { results := [.lit (.bool false)], args := [d] }
  | _ => none }
def FnCountArmWrongFalsely : Prop := fnCountArmRow.holds Try.pinned (OpenSpec.ofChange fnCountArmWrong)

/-- 'laws.FnFirstMissed': WHATEVER THE INPUT: true; the input reads as it did. -/
def fnFirstMissedSpec : ChangeSpec := { name := "fnFirstMissed", fn := fun _ => fun
  | [d] => { results := [.lit (.bool true)], args := [d] }
  | _ => none }
def fnFirstMissedRow : OpenClaim := { program := "ytcaobalijnajgaa", sum := "d6ac4c56b10455b8c6c353c8b3ef53522d85b0743f67f4813ce2c210e0c1a64a", func := "loop.example/namedflags/laws.FnFirstMissed", spec := "fnFirstMissed", unfollowed := true, recurses := true, apart := false }
def FnFirstMissedSaid : Prop := fnFirstMissedRow.holds Try.pinned (OpenSpec.ofChange fnFirstMissedSpec)

/-- ITS FALSE NEIGHBOUR: 'it returns false'. Refute it at one input. -/
def fnFirstMissedWrong : ChangeSpec := { name := "fnFirstMissed", fn := fun _ => fun
  | [d] => { results := [.lit (.bool false)], args := [d] }
  | _ => none }
def FnFirstMissedWrongFalsely : Prop := fnFirstMissedRow.holds Try.pinned (OpenSpec.ofChange fnFirstMissedWrong)

/-- 'laws.FnFirstMissedAll': WHATEVER THE INPUT: true; the input reads as it did. -/
def fnFirstMissedAllSpec : ChangeSpec := { name := "fnFirstMissedAll", fn := fun _ => fun
  | [d] => { results := [.lit (.bool true)], args := [d] }
  | _ => none }
def fnFirstMissedAllRow : OpenClaim := { program := "ytcaobalijnajgaa", sum := "d6ac4c56b10455b8c6c353c8b3ef53522d85b0743f67f4813ce2c210e0c1a64a", func := "loop.example/namedflags/laws.FnFirstMissedAll", spec := "fnFirstMissedAll", apart := false }
def FnFirstMissedAllSaid : Prop := fnFirstMissedAllRow.holds Try.pinned (OpenSpec.ofChange fnFirstMissedAllSpec)

/-- ITS FALSE NEIGHBOUR: 'it returns false'. Refute it at one input. -/
def fnFirstMissedAllWrong : ChangeSpec := { name := "fnFirstMissedAll", fn := fun _ => fun
  | [d] => { results := [.lit (.bool false)], args := [d] }
  | _ => none }
def FnFirstMissedAllWrongFalsely : Prop := fnFirstMissedAllRow.holds Try.pinned (OpenSpec.ofChange fnFirstMissedAllWrong)

/- THE SECOND FORM. 'bulk': how many values and letters a reading holds, each counted each time it is reached (what is shared counts as often as it is met; a slice's spare places count too). A statement '..UptoSaid' is the law's where the arguments, and the package variables that the reading takes, are together of bulk at most 1048576: NARROWER than '..Said'. Prove '..Said' where nothing that the law and all that it calls make is longer than what came in: it says more and counts as full. Else prove '..UptoSaid'. A law counts once. -/
mutual
def uptoBulk {H : Type} : DataW H → Nat
  | .lit (.string bytes) => bytes.length + 1
  | .lit _ => 1
  | .nil => 1
  | .ptr d => uptoBulk d + 1
  | .slice elems spare => uptoBulkAll elems + uptoBulkAll spare + 1
  | .agg parts => uptoBulkAll parts + 1
  | .iface _ d => uptoBulk d + 1
  | .map entries => uptoBulkEntries entries + 1
  | .held _ => 1
def uptoBulkAll {H : Type} : List (DataW H) → Nat
  | [] => 0
  | d :: r => uptoBulk d + uptoBulkAll r
def uptoBulkEntries {H : Type} : List (Lit × DataW H) → Nat
  | [] => 0
  | x :: r => uptoBulkEntry x + uptoBulkEntries r
def uptoBulkEntry {H : Type} : Lit × DataW H → Nat
  | (.string bytes, d) => bytes.length + uptoBulk d + 1
  | (_, d) => uptoBulk d + 1
 end
def uptoSmall : (H : Type) → List (DataW H) → Bool := fun _ ds => decide (uptoBulkAll ds ≤ 1048576)
def OpenSpec.upto (s : _root_.Go.ChangeSpec) : _root_.Go.OpenSpec := { _root_.Go.OpenSpec.ofChange s with cond := some uptoSmall }

/-- 'laws.FnValidArm', WHERE WHAT IT READS IS OF BULK AT MOST 1048576: true; the input reads as it did. -/
def fnValidArmUptoRow : OpenClaim := { program := "ytcaobalijnajgaa", sum := "d6ac4c56b10455b8c6c353c8b3ef53522d85b0743f67f4813ce2c210e0c1a64a", func := "loop.example/namedflags/laws.FnValidArm", spec := "fnValidArm", apart := false, narrowed := true }
def FnValidArmUptoSaid : Prop := fnValidArmUptoRow.holds Try.pinned (OpenSpec.upto fnValidArmSpec)

/-- 'laws.FnMatchArm', WHERE WHAT IT READS IS OF BULK AT MOST 1048576: true; the input reads as it did. -/
def fnMatchArmUptoRow : OpenClaim := { program := "ytcaobalijnajgaa", sum := "d6ac4c56b10455b8c6c353c8b3ef53522d85b0743f67f4813ce2c210e0c1a64a", func := "loop.example/namedflags/laws.FnMatchArm", spec := "fnMatchArm", unfollowed := true, recurses := true, apart := false, narrowed := true }
def FnMatchArmUptoSaid : Prop := fnMatchArmUptoRow.holds Try.pinned (OpenSpec.upto fnMatchArmSpec)

/-- 'laws.FnArmsMeet', WHERE WHAT IT READS IS OF BULK AT MOST 1048576: true; the input reads as it did. -/
def fnArmsMeetUptoRow : OpenClaim := { program := "ytcaobalijnajgaa", sum := "d6ac4c56b10455b8c6c353c8b3ef53522d85b0743f67f4813ce2c210e0c1a64a", func := "loop.example/namedflags/laws.FnArmsMeet", spec := "fnArmsMeet", unfollowed := true, recurses := true, apart := false, narrowed := true }
def FnArmsMeetUptoSaid : Prop := fnArmsMeetUptoRow.holds Try.pinned (OpenSpec.upto fnArmsMeetSpec)

/-- 'laws.FnArmCovers', WHERE WHAT IT READS IS OF BULK AT MOST 1048576: true; the input reads as it did. -/
def fnArmCoversUptoRow : OpenClaim := { program := "ytcaobalijnajgaa", sum := "d6ac4c56b10455b8c6c353c8b3ef53522d85b0743f67f4813ce2c210e0c1a64a", func := "loop.example/namedflags/laws.FnArmCovers", spec := "fnArmCovers", unfollowed := true, recurses := true, apart := false, narrowed := true }
def FnArmCoversUptoSaid : Prop := fnArmCoversUptoRow.holds Try.pinned (OpenSpec.upto fnArmCoversSpec)

/-- 'laws.FnFirstArm', WHERE WHAT IT READS IS OF BULK AT MOST 1048576: true; the input reads as it did. -/
def fnFirstArmUptoRow : OpenClaim := { program := "ytcaobalijnajgaa", sum := "d6ac4c56b10455b8c6c353c8b3ef53522d85b0743f67f4813ce2c210e0c1a64a", func := "loop.example/namedflags/laws.FnFirstArm", spec := "fnFirstArm", unfollowed := true, recurses := true, apart := false, narrowed := true }
def FnFirstArmUptoSaid : Prop := fnFirstArmUptoRow.holds Try.pinned (OpenSpec.upto fnFirstArmSpec)

/-- 'laws.FnCountArm', WHERE WHAT IT READS IS OF BULK AT MOST 1048576: true; the input reads as it did. -/
def fnCountArmUptoRow : OpenClaim := { program := "ytcaobalijnajgaa", sum := "d6ac4c56b10455b8c6c353c8b3ef53522d85b0743f67f4813ce2c210e0c1a64a", func := "loop.example/namedflags/laws.FnCountArm", spec := "fnCountArm", unfollowed := true, recurses := true, apart := false, narrowed := true }
def FnCountArmUptoSaid : Prop := fnCountArmUptoRow.holds Try.pinned (OpenSpec.upto fnCountArmSpec)

/-- 'laws.FnFirstMissed', WHERE WHAT IT READS IS OF BULK AT MOST 1048576: true; the input reads as it did. -/
def fnFirstMissedUptoRow : OpenClaim := { program := "ytcaobalijnajgaa", sum := "d6ac4c56b10455b8c6c353c8b3ef53522d85b0743f67f4813ce2c210e0c1a64a", func := "loop.example/namedflags/laws.FnFirstMissed", spec := "fnFirstMissed", unfollowed := true, recurses := true, apart := false, narrowed := true }
def FnFirstMissedUptoSaid : Prop := fnFirstMissedUptoRow.holds Try.pinned (OpenSpec.upto fnFirstMissedSpec)

/-- 'laws.FnFirstMissedAll', WHERE WHAT IT READS IS OF BULK AT MOST 1048576: true; the input reads as it did. -/
def fnFirstMissedAllUptoRow : OpenClaim := { program := "ytcaobalijnajgaa", sum := "d6ac4c56b10455b8c6c353c8b3ef53522d85b0743f67f4813ce2c210e0c1a64a", func := "loop.example/namedflags/laws.FnFirstMissedAll", spec := "fnFirstMissedAll", apart := false, narrowed := true }
def FnFirstMissedAllUptoSaid : Prop := fnFirstMissedAllUptoRow.holds Try.pinned (OpenSpec.upto fnFirstMissedAllSpec)

end Rows
end Go.Proofs.Ytcaobalijnajgaa
