/-
  No cell of these rows narrows 'for every input' (looked for: loops, veiled, ifaces, maps, wideKeys, modest, calm, conditions, laid).
  DERIVED. THE GIVEN ROWS OF THIS SEAT. 12 by the template 'for every input the law returns true; each argument reads behind the call as it read before'; 0 by the template 'total and deterministic' (their statements: YtlkjpepfkeekeaaTotals.lean).
  GIVEN WITH THE SEED: the statements are not yours to turn. If you find one false, say at which input.
  Laid BY PROGRAM, IN A SANDBOX (cutbox-rows.mjs): the forced cells as the released guide's own fill.sh prints them over the translation c7f1c3b4c1dad7b4… (all of the seat's roots in one cut). By AI agents, Wed Nov 11 2026. No macro, syntax, notation, axiom, sorry.
-/
import Derived.Test.YtlkjpepfkeekeaaChecked
import GoSem.Claim
import GoSem.ClaimJoined
import GoSem.ClaimMapViews
import Derived.JoinedTies
import Derived.KernelRfl
namespace Go.Proofs.Ytlkjpepfkeekeaa
/- THE CELL 'sum', in the pinned program and in every row, IS THE sha256 OF THE DUMP (.gsa) THAT YtlkjpepfkeekeaaProg.lean LOADS. Nothing in Lean hashes anything: it is a label: what it is worth is what the hold of that sum in a sandbox is worth. -/
noncomputable def Try.pinned : Pinned := { name := "ytlkjpepfkeekeaa", sum := "c7f1c3b4c1dad7b47cdd24d590b660c1fbcca7a38980c0c2255d41a1c5ea1bcb", checked := Try.checked }
namespace Rows
def none {H : Type} : Left H := { results := [], args := [] }

/-- 'laws.FnExactValidFlag': WHATEVER THE INPUT: true; the input reads as it did. -/
def fnExactValidFlagSpec : ChangeSpec := { name := "fnExactValidFlag", fn := fun _ => fun
  | [d] => { results := [.lit (.bool true)], args := [d] }
  | _ => none }
def fnExactValidFlagRow : OpenClaim := { program := "ytlkjpepfkeekeaa", sum := "c7f1c3b4c1dad7b47cdd24d590b660c1fbcca7a38980c0c2255d41a1c5ea1bcb", func := "loop.example/namedflags/laws.FnExactValidFlag", spec := "fnExactValidFlag", apart := false }
def FnExactValidFlagSaid : Prop := fnExactValidFlagRow.holds Try.pinned (OpenSpec.ofChange fnExactValidFlagSpec)

/-- ITS FALSE NEIGHBOUR: 'it returns false'. Refute it at one input. -/
def fnExactValidFlagWrong : ChangeSpec := { name := "fnExactValidFlag", fn := fun _ => fun
  | [d] => { results := [.lit (.bool false)], args := [d] }
  | _ => none }
def FnExactValidFlagWrongFalsely : Prop := fnExactValidFlagRow.holds Try.pinned (OpenSpec.ofChange fnExactValidFlagWrong)

/-- 'laws.FnExactBuildFlag': WHATEVER THE INPUT: true; the input reads as it did. -/
def fnExactBuildFlagSpec : ChangeSpec := { name := "fnExactBuildFlag", fn := fun _ => fun
  | [d1, d2] => { results := [.lit (.bool true)], args := [d1, d2] }
  | _ => none }
def fnExactBuildFlagRow : OpenClaim := { program := "ytlkjpepfkeekeaa", sum := "c7f1c3b4c1dad7b47cdd24d590b660c1fbcca7a38980c0c2255d41a1c5ea1bcb", func := "loop.example/namedflags/laws.FnExactBuildFlag", spec := "fnExactBuildFlag", apart := false }
def FnExactBuildFlagSaid : Prop := fnExactBuildFlagRow.holds Try.pinned (OpenSpec.ofChange fnExactBuildFlagSpec)

/-- ITS FALSE NEIGHBOUR: 'it returns false'. Refute it at one input. -/
def fnExactBuildFlagWrong : ChangeSpec := { name := "fnExactBuildFlag", fn := fun _ => fun
  | [d1, d2] => { results := [.lit (.bool false)], args := [d1, d2] }
  | _ => none }
def FnExactBuildFlagWrongFalsely : Prop := fnExactBuildFlagRow.holds Try.pinned (OpenSpec.ofChange fnExactBuildFlagWrong)

/-- 'laws.FnExactMaskOf': WHATEVER THE INPUT: true; the input reads as it did. -/
def fnExactMaskOfSpec : ChangeSpec := { name := "fnExactMaskOf", fn := fun _ => fun
  | [d] => { results := [.lit (.bool true)], args := [d] }
  | _ => none }
def fnExactMaskOfRow : OpenClaim := { program := "ytlkjpepfkeekeaa", sum := "c7f1c3b4c1dad7b47cdd24d590b660c1fbcca7a38980c0c2255d41a1c5ea1bcb", func := "loop.example/namedflags/laws.FnExactMaskOf", spec := "fnExactMaskOf", apart := false }
def FnExactMaskOfSaid : Prop := fnExactMaskOfRow.holds Try.pinned (OpenSpec.ofChange fnExactMaskOfSpec)

/-- ITS FALSE NEIGHBOUR: 'it returns false'. Refute it at one input. -/
def fnExactMaskOfWrong : ChangeSpec := { name := "fnExactMaskOf", fn := fun _ => fun
  | [d] => { results := [.lit (.bool false)], args := [d] }
  | _ => none }
def FnExactMaskOfWrongFalsely : Prop := fnExactMaskOfRow.holds Try.pinned (OpenSpec.ofChange fnExactMaskOfWrong)

/-- 'laws.FnExactSinglesOf': WHATEVER THE INPUT: true; the input reads as it did. -/
def fnExactSinglesOfSpec : ChangeSpec := { name := "fnExactSinglesOf", fn := fun _ => fun
  | [d] => { results := [.lit (.bool true)], args := [d] }
  | _ => none }
def fnExactSinglesOfRow : OpenClaim := { program := "ytlkjpepfkeekeaa", sum := "c7f1c3b4c1dad7b47cdd24d590b660c1fbcca7a38980c0c2255d41a1c5ea1bcb", func := "loop.example/namedflags/laws.FnExactSinglesOf", spec := "fnExactSinglesOf", apart := false }
def FnExactSinglesOfSaid : Prop := fnExactSinglesOfRow.holds Try.pinned (OpenSpec.ofChange fnExactSinglesOfSpec)

/-- ITS FALSE NEIGHBOUR: 'it returns false'. Refute it at one input. -/
def fnExactSinglesOfWrong : ChangeSpec := { name := "fnExactSinglesOf", fn := fun _ => fun
  | [d] => { results := [.lit (.bool false)], args := [d] }
  | _ => none }
def FnExactSinglesOfWrongFalsely : Prop := fnExactSinglesOfRow.holds Try.pinned (OpenSpec.ofChange fnExactSinglesOfWrong)

/-- 'laws.FnExactComposedOf': WHATEVER THE INPUT: true; the input reads as it did. -/
def fnExactComposedOfSpec : ChangeSpec := { name := "fnExactComposedOf", fn := fun _ => fun
  | [d] => { results := [.lit (.bool true)], args := [d] }
  | _ => none }
def fnExactComposedOfRow : OpenClaim := { program := "ytlkjpepfkeekeaa", sum := "c7f1c3b4c1dad7b47cdd24d590b660c1fbcca7a38980c0c2255d41a1c5ea1bcb", func := "loop.example/namedflags/laws.FnExactComposedOf", spec := "fnExactComposedOf", apart := false }
def FnExactComposedOfSaid : Prop := fnExactComposedOfRow.holds Try.pinned (OpenSpec.ofChange fnExactComposedOfSpec)

/-- ITS FALSE NEIGHBOUR: 'it returns false'. Refute it at one input. -/
def fnExactComposedOfWrong : ChangeSpec := { name := "fnExactComposedOf", fn := fun _ => fun
  | [d] => { results := [.lit (.bool false)], args := [d] }
  | _ => none }
def FnExactComposedOfWrongFalsely : Prop := fnExactComposedOfRow.holds Try.pinned (OpenSpec.ofChange fnExactComposedOfWrong)

/-- 'laws.FnExactLooseBits': WHATEVER THE INPUT: true; the input reads as it did. -/
def fnExactLooseBitsSpec : ChangeSpec := { name := "fnExactLooseBits", fn := fun _ => fun
  | [d] => { results := [.lit (.bool true)], args := [d] }
  | _ => none }
def fnExactLooseBitsRow : OpenClaim := { program := "ytlkjpepfkeekeaa", sum := "c7f1c3b4c1dad7b47cdd24d590b660c1fbcca7a38980c0c2255d41a1c5ea1bcb", func := "loop.example/namedflags/laws.FnExactLooseBits", spec := "fnExactLooseBits", apart := false }
def FnExactLooseBitsSaid : Prop := fnExactLooseBitsRow.holds Try.pinned (OpenSpec.ofChange fnExactLooseBitsSpec)

/-- ITS FALSE NEIGHBOUR: 'it returns false'. Refute it at one input. -/
def fnExactLooseBitsWrong : ChangeSpec := { name := "fnExactLooseBits", fn := fun _ => fun
  | [d] => { results := [.lit (.bool false)], args := [d] }
  | _ => none }
def FnExactLooseBitsWrongFalsely : Prop := fnExactLooseBitsRow.holds Try.pinned (OpenSpec.ofChange fnExactLooseBitsWrong)

/-- 'laws.FnExactHighOf': WHATEVER THE INPUT: true; the input reads as it did. -/
def fnExactHighOfSpec : ChangeSpec := { name := "fnExactHighOf", fn := fun _ => fun
  | [d] => { results := [.lit (.bool true)], args := [d] }
  | _ => none }
def fnExactHighOfRow : OpenClaim := { program := "ytlkjpepfkeekeaa", sum := "c7f1c3b4c1dad7b47cdd24d590b660c1fbcca7a38980c0c2255d41a1c5ea1bcb", func := "loop.example/namedflags/laws.FnExactHighOf", spec := "fnExactHighOf", apart := false }
def FnExactHighOfSaid : Prop := fnExactHighOfRow.holds Try.pinned (OpenSpec.ofChange fnExactHighOfSpec)

/-- ITS FALSE NEIGHBOUR: 'it returns false'. Refute it at one input. -/
def fnExactHighOfWrong : ChangeSpec := { name := "fnExactHighOf", fn := fun _ => fun
  | [d] => { results := [.lit (.bool false)], args := [d] }
  | _ => none }
def FnExactHighOfWrongFalsely : Prop := fnExactHighOfRow.holds Try.pinned (OpenSpec.ofChange fnExactHighOfWrong)

/-- 'laws.FnExactMakeValue': WHATEVER THE INPUT: true; the input reads as it did. -/
def fnExactMakeValueSpec : ChangeSpec := { name := "fnExactMakeValue", fn := fun _ => fun
  | [d1, d2] => { results := [.lit (.bool true)], args := [d1, d2] }
  | _ => none }
def fnExactMakeValueRow : OpenClaim := { program := "ytlkjpepfkeekeaa", sum := "c7f1c3b4c1dad7b47cdd24d590b660c1fbcca7a38980c0c2255d41a1c5ea1bcb", func := "loop.example/namedflags/laws.FnExactMakeValue", spec := "fnExactMakeValue", unfollowed := true, recurses := true, apart := false }
def FnExactMakeValueSaid : Prop := fnExactMakeValueRow.holds Try.pinned (OpenSpec.ofChange fnExactMakeValueSpec)

/-- ITS FALSE NEIGHBOUR: 'it returns false'. Refute it at one input. -/
def fnExactMakeValueWrong : ChangeSpec := { name := "fnExactMakeValue", fn := fun _ => fun
  | [d1, d2] => { results := [.lit (.bool false)], args := [d1, d2] }
  | _ => none }
def FnExactMakeValueWrongFalsely : Prop := fnExactMakeValueRow.holds Try.pinned (OpenSpec.ofChange fnExactMakeValueWrong)

/-- 'laws.FnExactIsValue': WHATEVER THE INPUT: true; the input reads as it did. -/
def fnExactIsValueSpec : ChangeSpec := { name := "fnExactIsValue", fn := fun _ => fun
  | [d1, d2] => { results := [.lit (.bool true)], args := [d1, d2] }
  | _ => none }
def fnExactIsValueRow : OpenClaim := { program := "ytlkjpepfkeekeaa", sum := "c7f1c3b4c1dad7b47cdd24d590b660c1fbcca7a38980c0c2255d41a1c5ea1bcb", func := "loop.example/namedflags/laws.FnExactIsValue", spec := "fnExactIsValue", unfollowed := true, recurses := true, apart := false }
def FnExactIsValueSaid : Prop := fnExactIsValueRow.holds Try.pinned (OpenSpec.ofChange fnExactIsValueSpec)

/-- ITS FALSE NEIGHBOUR: 'it returns false'. Refute it at one input. -/
def fnExactIsValueWrong : ChangeSpec := { name := "fnExactIsValue", fn := fun _ => fun
  | [d1, d2] => { results := [.lit (.bool false)], args := [d1, d2] }
  | _ => none }
def FnExactIsValueWrongFalsely : Prop := fnExactIsValueRow.holds Try.pinned (OpenSpec.ofChange fnExactIsValueWrong)

/-- 'laws.FnExactWithBound': WHATEVER THE INPUT: true; the input reads as it did. -/
def fnExactWithBoundSpec : ChangeSpec := { name := "fnExactWithBound", fn := fun _ => fun
  | [d1, d2] => { results := [.lit (.bool true)], args := [d1, d2] }
  | _ => none }
def fnExactWithBoundRow : OpenClaim := { program := "ytlkjpepfkeekeaa", sum := "c7f1c3b4c1dad7b47cdd24d590b660c1fbcca7a38980c0c2255d41a1c5ea1bcb", func := "loop.example/namedflags/laws.FnExactWithBound", spec := "fnExactWithBound", apart := false }
def FnExactWithBoundSaid : Prop := fnExactWithBoundRow.holds Try.pinned (OpenSpec.ofChange fnExactWithBoundSpec)

/-- ITS FALSE NEIGHBOUR: 'it returns false'. Refute it at one input. -/
def fnExactWithBoundWrong : ChangeSpec := { name := "fnExactWithBound", fn := fun _ => fun
  | [d1, d2] => { results := [.lit (.bool false)], args := [d1, d2] }
  | _ => none }
def FnExactWithBoundWrongFalsely : Prop := fnExactWithBoundRow.holds Try.pinned (OpenSpec.ofChange fnExactWithBoundWrong)

/-- 'laws.FnMakeValue': WHATEVER THE INPUT: true; the input reads as it did. -/
def fnMakeValueSpec : ChangeSpec := { name := "fnMakeValue", fn := fun _ => fun
  | [d] => { results := [.lit (.bool true)], args := [d] }
  | _ => none }
def fnMakeValueRow : OpenClaim := { program := "ytlkjpepfkeekeaa", sum := "c7f1c3b4c1dad7b47cdd24d590b660c1fbcca7a38980c0c2255d41a1c5ea1bcb", func := "loop.example/namedflags/laws.FnMakeValue", spec := "fnMakeValue", unfollowed := true, recurses := true, apart := false }
def FnMakeValueSaid : Prop := fnMakeValueRow.holds Try.pinned (OpenSpec.ofChange fnMakeValueSpec)

/-- ITS FALSE NEIGHBOUR: 'it returns false'. Refute it at one input. -/
def fnMakeValueWrong : ChangeSpec := { name := "fnMakeValue", fn := fun _ => fun
  | [d] => { results := [.lit (.bool false)], args := [d] }
  | _ => none }
def FnMakeValueWrongFalsely : Prop := fnMakeValueRow.holds Try.pinned (OpenSpec.ofChange fnMakeValueWrong)

/-- 'laws.FnWithBound': WHATEVER THE INPUT: true; the input reads as it did. -/
def fnWithBoundSpec : ChangeSpec := { name := "fnWithBound", fn := fun _ => fun
  | [d] => { results := [.lit (.bool true)], args := [d] }
  | _ => none }
def fnWithBoundRow : OpenClaim := { program := "ytlkjpepfkeekeaa", sum := "c7f1c3b4c1dad7b47cdd24d590b660c1fbcca7a38980c0c2255d41a1c5ea1bcb", func := "loop.example/namedflags/laws.FnWithBound", spec := "fnWithBound", apart := false }
def FnWithBoundSaid : Prop := fnWithBoundRow.holds Try.pinned (OpenSpec.ofChange fnWithBoundSpec)

/-- ITS FALSE NEIGHBOUR: 'it returns false'. Refute it at one input. -/
def fnWithBoundWrong : ChangeSpec := { name := "fnWithBound", fn := fun _ => fun
  | [d] => { results := [.lit (.bool false)], args := [d] }
  | _ => none }
def FnWithBoundWrongFalsely : Prop := fnWithBoundRow.holds Try.pinned (OpenSpec.ofChange fnWithBoundWrong)

/- THE SECOND FORM. 'bulk': how many values and letters a reading holds, each counted each time it is reached (what is shared counts as often as it is met; a slice's spare places count too). A statement '..UptoSaid' is the law's where the arguments, and the package variables that the reading takes, are together of bulk at most 1048576: NARROWER than '..Said'. Prove '..Said' where nothing that the law and all that it calls make is longer than what came in: it says more and counts as full. Else prove '..UptoSaid'. A law counts once. -/
mutual
def uptoBulk {H : Type} : DataW H → Nat
  | .lit (.string bytes) => bytes.length + 1
  | .lit _ => 1
  | .nil => 1
  | .ptr d => uptoBulk d + 1
  | .slice elems spare => uptoBulkAll elems + uptoBulkAll spare + 1
  | .agg parts => uptoBulkAll parts + 1
  | .iface _ d => uptoBulk d + 1
  | .map entries => uptoBulkEntries entries + 1
  | .held _ => 1
def uptoBulkAll {H : Type} : List (DataW H) → Nat
  | [] => 0
  | d :: r => uptoBulk d + uptoBulkAll r
def uptoBulkEntries {H : Type} : List (Lit × DataW H) → Nat
  | [] => 0
  | x :: r => uptoBulkEntry x + uptoBulkEntries r
def uptoBulkEntry {H : Type} : Lit × DataW H → Nat
  | (.string bytes, d) => bytes.length + uptoBulk d + 1
  | (_, d) => uptoBulk d + 1
 end
def uptoSmall : (H : Type) → List (DataW H) → Bool := fun _ ds => decide (uptoBulkAll ds ≤ 1048576)
def OpenSpec.upto (s : _root_.Go.ChangeSpec) : _root_.Go.OpenSpec := { _root_.Go.OpenSpec.ofChange s with cond := some uptoSmall }

/-- 'laws.FnExactValidFlag', WHERE WHAT IT READS IS OF BULK AT MOST 1048576: true; the input reads as it did. -/
def fnExactValidFlagUptoRow : OpenClaim := { program := "ytlkjpepfkeekeaa", sum := "c7f1c3b4c1dad7b47cdd24d590b660c1fbcca7a38980c0c2255d41a1c5ea1bcb", func := "loop.example/namedflags/laws.FnExactValidFlag", spec := "fnExactValidFlag", apart := false, narrowed := true }
def FnExactValidFlagUptoSaid : Prop := fnExactValidFlagUptoRow.holds Try.pinned (OpenSpec.upto fnExactValidFlagSpec)

/-- 'laws.FnExactBuildFlag', WHERE WHAT IT READS IS OF BULK AT MOST 1048576: true; the input reads as it did. -/
def fnExactBuildFlagUptoRow : OpenClaim := { program := "ytlkjpepfkeekeaa", sum := "c7f1c3b4c1dad7b47cdd24d590b660c1fbcca7a38980c0c2255d41a1c5ea1bcb", func := "loop.example/namedflags/laws.FnExactBuildFlag", spec := "fnExactBuildFlag", apart := false, narrowed := true }
def FnExactBuildFlagUptoSaid : Prop := fnExactBuildFlagUptoRow.holds Try.pinned (OpenSpec.upto fnExactBuildFlagSpec)

/-- 'laws.FnExactMaskOf', WHERE WHAT IT READS IS OF BULK AT MOST 1048576: true; the input reads as it did. -/
def fnExactMaskOfUptoRow : OpenClaim := { program := "ytlkjpepfkeekeaa", sum := "c7f1c3b4c1dad7b47cdd24d590b660c1fbcca7a38980c0c2255d41a1c5ea1bcb", func := "loop.example/namedflags/laws.FnExactMaskOf", spec := "fnExactMaskOf", apart := false, narrowed := true }
def FnExactMaskOfUptoSaid : Prop := fnExactMaskOfUptoRow.holds Try.pinned (OpenSpec.upto fnExactMaskOfSpec)

/-- 'laws.FnExactSinglesOf', WHERE WHAT IT READS IS OF BULK AT MOST 1048576: true; the input reads as it did. -/
def fnExactSinglesOfUptoRow : OpenClaim := { program := "ytlkjpepfkeekeaa", sum := "c7f1c3b4c1dad7b47cdd24d590b660c1fbcca7a38980c0c2255d41a1c5ea1bcb", func := "loop.example/namedflags/laws.FnExactSinglesOf", spec := "fnExactSinglesOf", apart := false, narrowed := true }
def FnExactSinglesOfUptoSaid : Prop := fnExactSinglesOfUptoRow.holds Try.pinned (OpenSpec.upto fnExactSinglesOfSpec)

/-- 'laws.FnExactComposedOf', WHERE WHAT IT READS IS OF BULK AT MOST 1048576: true; the input reads as it did. -/
def fnExactComposedOfUptoRow : OpenClaim := { program := "ytlkjpepfkeekeaa", sum := "c7f1c3b4c1dad7b47cdd24d590b660c1fbcca7a38980c0c2255d41a1c5ea1bcb", func := "loop.example/namedflags/laws.FnExactComposedOf", spec := "fnExactComposedOf", apart := false, narrowed := true }
def FnExactComposedOfUptoSaid : Prop := fnExactComposedOfUptoRow.holds Try.pinned (OpenSpec.upto fnExactComposedOfSpec)

/-- 'laws.FnExactLooseBits', WHERE WHAT IT READS IS OF BULK AT MOST 1048576: true; the input reads as it did. -/
def fnExactLooseBitsUptoRow : OpenClaim := { program := "ytlkjpepfkeekeaa", sum := "c7f1c3b4c1dad7b47cdd24d590b660c1fbcca7a38980c0c2255d41a1c5ea1bcb", func := "loop.example/namedflags/laws.FnExactLooseBits", spec := "fnExactLooseBits", apart := false, narrowed := true }
def FnExactLooseBitsUptoSaid : Prop := fnExactLooseBitsUptoRow.holds Try.pinned (OpenSpec.upto fnExactLooseBitsSpec)

/-- 'laws.FnExactHighOf', WHERE WHAT IT READS IS OF BULK AT MOST 1048576: true; the input reads as it did. -/
def fnExactHighOfUptoRow : OpenClaim := { program := "ytlkjpepfkeekeaa", sum := "c7f1c3b4c1dad7b47cdd24d590b660c1fbcca7a38980c0c2255d41a1c5ea1bcb", func := "loop.example/namedflags/laws.FnExactHighOf", spec := "fnExactHighOf", apart := false, narrowed := true }
def FnExactHighOfUptoSaid : Prop := fnExactHighOfUptoRow.holds Try.pinned (OpenSpec.upto fnExactHighOfSpec)

/-- 'laws.FnExactMakeValue', WHERE WHAT IT READS IS OF BULK AT MOST 1048576: true; the input reads as it did. -/
def fnExactMakeValueUptoRow : OpenClaim := { program := "ytlkjpepfkeekeaa", sum := "c7f1c3b4c1dad7b47cdd24d590b660c1fbcca7a38980c0c2255d41a1c5ea1bcb", func := "loop.example/namedflags/laws.FnExactMakeValue", spec := "fnExactMakeValue", unfollowed := true, recurses := true, apart := false, narrowed := true }
def FnExactMakeValueUptoSaid : Prop := fnExactMakeValueUptoRow.holds Try.pinned (OpenSpec.upto fnExactMakeValueSpec)

/-- 'laws.FnExactIsValue', WHERE WHAT IT READS IS OF BULK AT MOST 1048576: true; the input reads as it did. -/
def fnExactIsValueUptoRow : OpenClaim := { program := "ytlkjpepfkeekeaa", sum := "c7f1c3b4c1dad7b47cdd24d590b660c1fbcca7a38980c0c2255d41a1c5ea1bcb", func := "loop.example/namedflags/laws.FnExactIsValue", spec := "fnExactIsValue", unfollowed := true, recurses := true, apart := false, narrowed := true }
def FnExactIsValueUptoSaid : Prop := fnExactIsValueUptoRow.holds Try.pinned (OpenSpec.upto fnExactIsValueSpec)

/-- 'laws.FnExactWithBound', WHERE WHAT IT READS IS OF BULK AT MOST 1048576: true; the input reads as it did. -/
def fnExactWithBoundUptoRow : OpenClaim := { program := "ytlkjpepfkeekeaa", sum := "c7f1c3b4c1dad7b47cdd24d590b660c1fbcca7a38980c0c2255d41a1c5ea1bcb", func := "loop.example/namedflags/laws.FnExactWithBound", spec := "fnExactWithBound", apart := false, narrowed := true }
def FnExactWithBoundUptoSaid : Prop := fnExactWithBoundUptoRow.holds Try.pinned (OpenSpec.upto fnExactWithBoundSpec)

/-- 'laws.FnMakeValue', WHERE WHAT IT READS IS OF BULK AT MOST 1048576: true; the input reads as it did. -/
def fnMakeValueUptoRow : OpenClaim := { program := "ytlkjpepfkeekeaa", sum := "c7f1c3b4c1dad7b47cdd24d590b660c1fbcca7a38980c0c2255d41a1c5ea1bcb", func := "loop.example/namedflags/laws.FnMakeValue", spec := "fnMakeValue", unfollowed := true, recurses := true, apart := false, narrowed := true }
def FnMakeValueUptoSaid : Prop := fnMakeValueUptoRow.holds Try.pinned (OpenSpec.upto fnMakeValueSpec)

/-- 'laws.FnWithBound', WHERE WHAT IT READS IS OF BULK AT MOST 1048576: true; the input reads as it did. -/
def fnWithBoundUptoRow : OpenClaim := { program := "ytlkjpepfkeekeaa", sum := "c7f1c3b4c1dad7b47cdd24d590b660c1fbcca7a38980c0c2255d41a1c5ea1bcb", func := "loop.example/namedflags/laws.FnWithBound", spec := "fnWithBound", apart := false, narrowed := true }
def FnWithBoundUptoSaid : Prop := fnWithBoundUptoRow.holds Try.pinned (OpenSpec.upto fnWithBoundSpec)

end Rows
end Go.Proofs.Ytlkjpepfkeekeaa
