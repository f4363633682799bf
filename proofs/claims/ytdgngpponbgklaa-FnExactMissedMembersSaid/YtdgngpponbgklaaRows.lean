/-
  No cell of these rows narrows 'for every input' (looked for: loops, veiled, ifaces, maps, wideKeys, modest, calm, conditions, laid).
  DERIVED. THE GIVEN ROWS OF THIS SEAT. 10 by the template 'for every input the law returns true; each argument reads behind the call as it read before'; 0 by the template 'total and deterministic' (their statements: YtdgngpponbgklaaTotals.lean).
  GIVEN WITH THE SEED: the statements are not yours to turn. If you find one false, say at which input.
  Laid BY PROGRAM, IN A SANDBOX (cutbox-rows.mjs): the forced cells as the released guide's own fill.sh prints them over the translation 02c7779fb8217692… (all of the seat's roots in one cut). By AI agents, Wed Nov 11 2026. No macro, syntax, notation, axiom, sorry.
-/
import Derived.Test.YtdgngpponbgklaaChecked
import GoSem.Claim
import GoSem.ClaimJoined
import GoSem.ClaimMapViews
import Derived.JoinedTies
import Derived.KernelRfl
namespace Go.Proofs.Ytdgngpponbgklaa
/- THE CELL 'sum', in the pinned program and in every row, IS THE sha256 OF THE DUMP (.gsa) THAT YtdgngpponbgklaaProg.lean LOADS. Nothing in Lean hashes anything: it is a label: what it is worth is what the hold of that sum in a sandbox is worth. -/
noncomputable def Try.pinned : Pinned := { name := "ytdgngpponbgklaa", sum := "02c7779fb8217692d26e37bf3d99c44ea0a0d6a1a3e804580c9ca6ea0cea7122", checked := Try.checked }
namespace Rows
def none {H : Type} : Left H := { results := [], args := [] }

/-- 'laws.FnExactValidArm': WHATEVER THE INPUT: true; the input reads as it did. -/
def fnExactValidArmSpec : ChangeSpec := { name := "fnExactValidArm", fn := fun _ => fun
  | [d1, d2] => { results := [.lit (.bool true)], args := [d1, d2] }
  | _ => none }
def fnExactValidArmRow : OpenClaim := { program := "ytdgngpponbgklaa", sum := "02c7779fb8217692d26e37bf3d99c44ea0a0d6a1a3e804580c9ca6ea0cea7122", func := "loop.example/namedflags/laws.FnExactValidArm", spec := "fnExactValidArm", apart := false }
def FnExactValidArmSaid : Prop := fnExactValidArmRow.holds Try.pinned (OpenSpec.ofChange fnExactValidArmSpec)

/-- ITS FALSE NEIGHBOUR: 'it returns false'. Refute it at one input. -/
def fnExactValidArmWrong : ChangeSpec := { name := "fnExactValidArm", fn := fun _ => fun
  | [d1, d2] => { results := [.lit (.bool false)], args := [d1, d2] }
  | _ => none }
def FnExactValidArmWrongFalsely : Prop := fnExactValidArmRow.holds Try.pinned (OpenSpec.ofChange fnExactValidArmWrong)

/-- 'laws.FnExactMatchArm': WHATEVER THE INPUT: true; the input reads as it did. -/
def fnExactMatchArmSpec : ChangeSpec := { name := "fnExactMatchArm", fn := fun _ => fun
  | [d1, d2, d3] => { results := [.lit (.bool true)], args := [d1, d2, d3] }
  | _ => none }
def fnExactMatchArmRow : OpenClaim := { program := "ytdgngpponbgklaa", sum := "02c7779fb8217692d26e37bf3d99c44ea0a0d6a1a3e804580c9ca6ea0cea7122", func := "loop.example/namedflags/laws.FnExactMatchArm", spec := "fnExactMatchArm", unfollowed := true, recurses := true, apart := false }
def FnExactMatchArmSaid : Prop := fnExactMatchArmRow.holds Try.pinned (OpenSpec.ofChange fnExactMatchArmSpec)

/-- ITS FALSE NEIGHBOUR: 'it returns false'. Refute it at one input. -/
def fnExactMatchArmWrong : ChangeSpec := { name := "fnExactMatchArm", fn := fun _ => fun
  | [d1, d2, d3] => { results := [.lit (.bool false)], args := [d1, d2, d3] }
  | _ => none }
def FnExactMatchArmWrongFalsely : Prop := fnExactMatchArmRow.holds Try.pinned (OpenSpec.ofChange fnExactMatchArmWrong)

/-- 'laws.FnExactArmsMeet': WHATEVER THE INPUT: true; the input reads as it did. -/
def fnExactArmsMeetSpec : ChangeSpec := { name := "fnExactArmsMeet", fn := fun _ => fun
  | [d1, d2, d3] => { results := [.lit (.bool true)], args := [d1, d2, d3] }
  | _ => none }
def fnExactArmsMeetRow : OpenClaim := { program := "ytdgngpponbgklaa", sum := "02c7779fb8217692d26e37bf3d99c44ea0a0d6a1a3e804580c9ca6ea0cea7122", func := "loop.example/namedflags/laws.FnExactArmsMeet", spec := "fnExactArmsMeet", apart := false }
def FnExactArmsMeetSaid : Prop := fnExactArmsMeetRow.holds Try.pinned (OpenSpec.ofChange fnExactArmsMeetSpec)

/-- ITS FALSE NEIGHBOUR: 'it returns false'. Refute it at one input. -/
def fnExactArmsMeetWrong : ChangeSpec := { name := "fnExactArmsMeet", fn := fun _ => fun
  | [d1, d2, d3] => { results := [.lit (.bool false)], args := [d1, d2, d3] }
  | _ => none }
def FnExactArmsMeetWrongFalsely : Prop := fnExactArmsMeetRow.holds Try.pinned (OpenSpec.ofChange fnExactArmsMeetWrong)

/-- 'laws.FnExactArmCovers': WHATEVER THE INPUT: true; the input reads as it did. -/
def fnExactArmCoversSpec : ChangeSpec := { name := "fnExactArmCovers", fn := fun _ => fun
  | [d1, d2, d3] => { results := [.lit (.bool true)], args := [d1, d2, d3] }
  | _ => none }
def fnExactArmCoversRow : OpenClaim := { program := "ytdgngpponbgklaa", sum := "02c7779fb8217692d26e37bf3d99c44ea0a0d6a1a3e804580c9ca6ea0cea7122", func := "loop.example/namedflags/laws.FnExactArmCovers", spec := "fnExactArmCovers", apart := false }
def FnExactArmCoversSaid : Prop := fnExactArmCoversRow.holds Try.pinned (OpenSpec.ofChange fnExactArmCoversSpec)

/-- ITS FALSE NEIGHBOUR: 'it returns false'. Refute it at one input. -/
def fnExactArmCoversWrong : ChangeSpec := { name := "fnExactArmCovers", fn := fun _ => fun
  | [d1, d2, d3] => { results := [.lit (.bool false)], args := [d1, d2, d3] }
  | _ => none }
def FnExactArmCoversWrongFalsely : Prop := fnExactArmCoversRow.holds Try.pinned (OpenSpec.ofChange fnExactArmCoversWrong)

/-- 'laws.FnExactCountArm': WHATEVER THE INPUT: true; the input reads as it did. -/
def fnExactCountArmSpec : ChangeSpec := { name := "fnExactCountArm", fn := fun _ => fun
  | [d1, d2] => { results := [.lit (.bool true)], args := [d1, d2] }
  | _ => none }
def fnExactCountArmRow : OpenClaim := { program := "ytdgngpponbgklaa", sum := "02c7779fb8217692d26e37bf3d99c44ea0a0d6a1a3e804580c9ca6ea0cea7122", func := "loop.example/namedflags/laws.FnExactCountArm", spec := "fnExactCountArm", apart := false }
def FnExactCountArmSaid : Prop := fnExactCountArmRow.holds Try.pinned (OpenSpec.ofChange fnExactCountArmSpec)

/-- ITS FALSE NEIGHBOUR: 'it returns false'. Refute it at one input. -/
def fnExactCountArmWrong : ChangeSpec := { name := "fnExactCountArm", fn := fun _ => fun
  | [d1, d2] => { results := [.lit (.bool false)], args := [d1, d2] }
  | _ => none }
def FnExactCountArmWrongFalsely : Prop := fnExactCountArmRow.holds Try.pinned (OpenSpec.ofChange fnExactCountArmWrong)

/-- 'laws.FnExactFirstArm': WHATEVER THE INPUT: true; the input reads as it did. -/
def fnExactFirstArmSpec : ChangeSpec := { name := "fnExactFirstArm", fn := fun _ => fun
  | [d1, d2, d3] => { results := [.lit (.bool true)], args := [d1, d2, d3] }
  | _ => none }
def fnExactFirstArmRow : OpenClaim := { program := "ytdgngpponbgklaa", sum := "02c7779fb8217692d26e37bf3d99c44ea0a0d6a1a3e804580c9ca6ea0cea7122", func := "loop.example/namedflags/laws.FnExactFirstArm", spec := "fnExactFirstArm", unfollowed := true, recurses := true, apart := false }
def FnExactFirstArmSaid : Prop := fnExactFirstArmRow.holds Try.pinned (OpenSpec.ofChange fnExactFirstArmSpec)

/-- ITS FALSE NEIGHBOUR: 'it returns false'. Refute it at one input. -/
def fnExactFirstArmWrong : ChangeSpec := { name := "fnExactFirstArm", fn := fun _ => fun
  | [d1, d2, d3] => { results := [.lit (.bool false)], args := [d1, d2, d3] }
  | _ => none }
def FnExactFirstArmWrongFalsely : Prop := fnExactFirstArmRow.holds Try.pinned (OpenSpec.ofChange fnExactFirstArmWrong)

/-- 'laws.FnExactFirstMissed': WHATEVER THE INPUT: true; the input reads as it did. -/
def fnExactFirstMissedSpec : ChangeSpec := { name := "fnExactFirstMissed", fn := fun _ => fun
  | [d1, d2] => { results := [.lit (.bool true)], args := [d1, d2] }
  | _ => none }
def fnExactFirstMissedRow : OpenClaim := { program := "ytdgngpponbgklaa", sum := "02c7779fb8217692d26e37bf3d99c44ea0a0d6a1a3e804580c9ca6ea0cea7122", func := "loop.example/namedflags/laws.FnExactFirstMissed", spec := "fnExactFirstMissed", apart := false }
def FnExactFirstMissedSaid : Prop := fnExactFirstMissedRow.holds Try.pinned (OpenSpec.ofChange fnExactFirstMissedSpec)

/-- ITS FALSE NEIGHBOUR: 'it returns false'. Refute it at one input. -/
def fnExactFirstMissedWrong : ChangeSpec := { name := "fnExactFirstMissed", fn := fun _ => fun
  | [d1, d2] => { results := [.lit (.bool false)], args := [d1, d2] }
  | _ => none }
def FnExactFirstMissedWrongFalsely : Prop := fnExactFirstMissedRow.holds Try.pinned (OpenSpec.ofChange fnExactFirstMissedWrong)

/-- 'laws.FnExactDeadArms': WHATEVER THE INPUT: true; the input reads as it did. -/
def fnExactDeadArmsSpec : ChangeSpec := { name := "fnExactDeadArms", fn := fun _ => fun
  | [d1, d2] => { results := [.lit (.bool true)], args := [d1, d2] }
  | _ => none }
def fnExactDeadArmsRow : OpenClaim := { program := "ytdgngpponbgklaa", sum := "02c7779fb8217692d26e37bf3d99c44ea0a0d6a1a3e804580c9ca6ea0cea7122", func := "loop.example/namedflags/laws.FnExactDeadArms", spec := "fnExactDeadArms", apart := false }
def FnExactDeadArmsSaid : Prop := fnExactDeadArmsRow.holds Try.pinned (OpenSpec.ofChange fnExactDeadArmsSpec)

/-- ITS FALSE NEIGHBOUR: 'it returns false'. Refute it at one input. -/
def fnExactDeadArmsWrong : ChangeSpec := { name := "fnExactDeadArms", fn := fun _ => fun
  | [d1, d2] => { results := [.lit (.bool false)], args := [d1, d2] }
  | _ => none }
def FnExactDeadArmsWrongFalsely : Prop := fnExactDeadArmsRow.holds Try.pinned (OpenSpec.ofChange fnExactDeadArmsWrong)

/-- 'laws.FnExactMissedMembers': WHATEVER THE INPUT: true; the input reads as it did. -/
def fnExactMissedMembersSpec : ChangeSpec := { name := "fnExactMissedMembers", fn := fun _ => fun
  | [d1, d2] => { results := [.lit (.bool true)], args := [d1, d2] }
  | _ => none }
def fnExactMissedMembersRow : OpenClaim := { program := "ytdgngpponbgklaa", sum := "02c7779fb8217692d26e37bf3d99c44ea0a0d6a1a3e804580c9ca6ea0cea7122", func := "loop.example/namedflags/laws.FnExactMissedMembers", spec := "fnExactMissedMembers", apart := false }
def FnExactMissedMembersSaid : Prop := fnExactMissedMembersRow.holds Try.pinned (OpenSpec.ofChange fnExactMissedMembersSpec)

/-- ITS FALSE NEIGHBOUR: 'it returns false'. Refute it at one input. -/
def fnExactMissedMembersWrong : ChangeSpec := { name := "fnExactMissedMembers", fn := fun _ => fun
  | [d1, d2] => { results := [.lit (.bool false)], args := [d1, d2] }
  | _ => none }
def FnExactMissedMembersWrongFalsely : Prop := fnExactMissedMembersRow.holds Try.pinned (OpenSpec.ofChange fnExactMissedMembersWrong)

/-- 'laws.FnExactGreatestArms': WHATEVER THE INPUT: true; the input reads as it did. -/
def fnExactGreatestArmsSpec : ChangeSpec := { name := "fnExactGreatestArms", fn := fun _ => fun
  | [d1, d2] => { results := [.lit (.bool true)], args := [d1, d2] }
  | _ => none }
def fnExactGreatestArmsRow : OpenClaim := { program := "ytdgngpponbgklaa", sum := "02c7779fb8217692d26e37bf3d99c44ea0a0d6a1a3e804580c9ca6ea0cea7122", func := "loop.example/namedflags/laws.FnExactGreatestArms", spec := "fnExactGreatestArms", unfollowed := true, recurses := true, apart := false }
def FnExactGreatestArmsSaid : Prop := fnExactGreatestArmsRow.holds Try.pinned (OpenSpec.ofChange fnExactGreatestArmsSpec)

/-- ITS FALSE NEIGHBOUR: 'it returns false'. Refute it at one input. -/
def fnExactGreatestArmsWrong : ChangeSpec := { name := "fnExactGreatestArms", fn := fun _ => fun
  | [d1, d2] => { results := [.lit (.bool false)], args := [d1, d2] }
  | _ => none }
def FnExactGreatestArmsWrongFalsely : Prop := fnExactGreatestArmsRow.holds Try.pinned (OpenSpec.ofChange fnExactGreatestArmsWrong)

/- THE SECOND FORM. 'bulk': how many values and letters a reading holds, each counted each time it is reached (what is shared counts as often as it is met; a slice's spare places count too). A statement '..UptoSaid' is the law's where the arguments, and the package variables that the reading takes, are together of bulk at most 1048576: NARROWER than '..Said'. Prove '..Said' where nothing that the law and all that it calls make is longer than what came in: it says more and counts as full. Else prove '..UptoSaid'. A law counts once. -/
mutual
def uptoBulk {H : Type} : DataW H → Nat
  | .lit (.string bytes) => bytes.length + 1
  | .lit _ => 1
  | .nil => 1
  | .ptr d => uptoBulk d + 1
  | .slice elems spare => uptoBulkAll elems + uptoBulkAll spare + 1
  | .agg parts => uptoBulkAll parts + 1
  | .iface _ d => uptoBulk d + 1
  | .map entries => uptoBulkEntries entries + 1
  | .held _ => 1
def uptoBulkAll {H : Type} : List (DataW H) → Nat
  | [] => 0
  | d :: r => uptoBulk d + uptoBulkAll r
def uptoBulkEntries {H : Type} : List (Lit × DataW H) → Nat
  | [] => 0
  | x :: r => uptoBulkEntry x + uptoBulkEntries r
def uptoBulkEntry {H : Type} : Lit × DataW H → Nat
  | (.string bytes, d) => bytes.length + uptoBulk d + 1
  | (_, d) => uptoBulk d + 1
 end
def uptoSmall : (H : Type) → List (DataW H) → Bool := fun _ ds => decide (uptoBulkAll ds ≤ 1048576)
def OpenSpec.upto (s : _root_.Go.ChangeSpec) : _root_.Go.OpenSpec := { _root_.Go.OpenSpec.ofChange s with cond := some uptoSmall }

/-- 'laws.FnExactValidArm', WHERE WHAT IT READS IS OF BULK AT MOST 1048576: true; the input reads as it did. -/
def fnExactValidArmUptoRow : OpenClaim := { program := "ytdgngpponbgklaa", sum := "02c7779fb8217692d26e37bf3d99c44ea0a0d6a1a3e804580c9ca6ea0cea7122", func := "loop.example/namedflags/laws.FnExactValidArm", spec := "fnExactValidArm", apart := false, narrowed := true }
def FnExactValidArmUptoSaid : Prop := fnExactValidArmUptoRow.holds Try.pinned (OpenSpec.upto fnExactValidArmSpec)

/-- 'laws.FnExactMatchArm', WHERE WHAT IT READS IS OF BULK AT MOST 1048576: true; the input reads as it did. -/
def fnExactMatchArmUptoRow : OpenClaim := { program := "ytdgngpponbgklaa", sum := "02c7779fb8217692d26e37bf3d99c44ea0a0d6a1a3e804580c9ca6ea0cea7122", func := "loop.example/namedflags/laws.FnExactMatchArm", spec := "fnExactMatchArm", unfollowed := true, recurses := true, apart := false, narrowed := true }
def FnExactMatchArmUptoSaid : Prop := fnExactMatchArmUptoRow.holds Try.pinned (OpenSpec.upto fnExactMatchArmSpec)

/-- 'laws.FnExactArmsMeet', WHERE WHAT IT READS IS OF BULK AT MOST 1048576: true; the input reads as it did. -/
def fnExactArmsMeetUptoRow : OpenClaim := { program := "ytdgngpponbgklaa", sum := "02c7779fb8217692d26e37bf3d99c44ea0a0d6a1a3e804580c9ca6ea0cea7122", func := "loop.example/namedflags/laws.FnExactArmsMeet", spec := "fnExactArmsMeet", apart := false, narrowed := true }
def FnExactArmsMeetUptoSaid : Prop := fnExactArmsMeetUptoRow.holds Try.pinned (OpenSpec.upto fnExactArmsMeetSpec)

/-- 'laws.FnExactArmCovers', WHERE WHAT IT READS IS OF BULK AT MOST 1048576: true; the input reads as it did. -/
def fnExactArmCoversUptoRow : OpenClaim := { program := "ytdgngpponbgklaa", sum := "02c7779fb8217692d26e37bf3d99c44ea0a0d6a1a3e804580c9ca6ea0cea7122", func := "loop.example/namedflags/laws.FnExactArmCovers", spec := "fnExactArmCovers", apart := false, narrowed := true }
def FnExactArmCoversUptoSaid : Prop := fnExactArmCoversUptoRow.holds Try.pinned (OpenSpec.upto fnExactArmCoversSpec)

/-- 'laws.FnExactCountArm', WHERE WHAT IT READS IS OF BULK AT MOST 1048576: true; the input reads as it did. -/
def fnExactCountArmUptoRow : OpenClaim := { program := "ytdgngpponbgklaa", sum := "02c7779fb8217692d26e37bf3d99c44ea0a0d6a1a3e804580c9ca6ea0cea7122", func := "loop.example/namedflags/laws.FnExactCountArm", spec := "fnExactCountArm", apart := false, narrowed := true }
def FnExactCountArmUptoSaid : Prop := fnExactCountArmUptoRow.holds Try.pinned (OpenSpec.upto fnExactCountArmSpec)

/-- 'laws.FnExactFirstArm', WHERE WHAT IT READS IS OF BULK AT MOST 1048576: true; the input reads as it did. -/
def fnExactFirstArmUptoRow : OpenClaim := { program := "ytdgngpponbgklaa", sum := "02c7779fb8217692d26e37bf3d99c44ea0a0d6a1a3e804580c9ca6ea0cea7122", func := "loop.example/namedflags/laws.FnExactFirstArm", spec := "fnExactFirstArm", unfollowed := true, recurses := true, apart := false, narrowed := true }
def FnExactFirstArmUptoSaid : Prop := fnExactFirstArmUptoRow.holds Try.pinned (OpenSpec.upto fnExactFirstArmSpec)

/-- 'laws.FnExactFirstMissed', WHERE WHAT IT READS IS OF BULK AT MOST 1048576: true; the input reads as it did. -/
def fnExactFirstMissedUptoRow : OpenClaim := { program := "ytdgngpponbgklaa", sum := "02c7779fb8217692d26e37bf3d99c44ea0a0d6a1a3e804580c9ca6ea0cea7122", func := "loop.example/namedflags/laws.FnExactFirstMissed", spec := "fnExactFirstMissed", apart := false, narrowed := true }
def FnExactFirstMissedUptoSaid : Prop := fnExactFirstMissedUptoRow.holds Try.pinned (OpenSpec.upto fnExactFirstMissedSpec)

/-- 'laws.FnExactDeadArms', WHERE WHAT IT READS IS OF BULK AT MOST 1048576: true; the input reads as it did. -/
def fnExactDeadArmsUptoRow : OpenClaim := { program := "ytdgngpponbgklaa", sum := "02c7779fb8217692d26e37bf3d99c44ea0a0d6a1a3e804580c9ca6ea0cea7122", func := "loop.example/namedflags/laws.FnExactDeadArms", spec := "fnExactDeadArms", apart := false, narrowed := true }
def FnExactDeadArmsUptoSaid : Prop := fnExactDeadArmsUptoRow.holds Try.pinned (OpenSpec.upto fnExactDeadArmsSpec)

/-- 'laws.FnExactMissedMembers', WHERE WHAT IT READS IS OF BULK AT MOST 1048576: true; the input reads as it did. -/
def fnExactMissedMembersUptoRow : OpenClaim := { program := "ytdgngpponbgklaa", sum := "02c7779fb8217692d26e37bf3d99c44ea0a0d6a1a3e804580c9ca6ea0cea7122", func := "loop.example/namedflags/laws.FnExactMissedMembers", spec := "fnExactMissedMembers", apart := false, narrowed := true }
def FnExactMissedMembersUptoSaid : Prop := fnExactMissedMembersUptoRow.holds Try.pinned (OpenSpec.upto fnExactMissedMembersSpec)

/-- 'laws.FnExactGreatestArms', WHERE WHAT IT READS IS OF BULK AT MOST 1048576: true; the input reads as it did. -/
def fnExactGreatestArmsUptoRow : OpenClaim := { program := "ytdgngpponbgklaa", sum := "02c7779fb8217692d26e37bf3d99c44ea0a0d6a1a3e804580c9ca6ea0cea7122", func := "loop.example/namedflags/laws.FnExactGreatestArms", spec := "fnExactGreatestArms", unfollowed := true, recurses := true, apart := false, narrowed := true }
def FnExactGreatestArmsUptoSaid : Prop := fnExactGreatestArmsUptoRow.holds Try.pinned (OpenSpec.upto fnExactGreatestArmsSpec)

end Rows
end Go.Proofs.Ytdgngpponbgklaa
