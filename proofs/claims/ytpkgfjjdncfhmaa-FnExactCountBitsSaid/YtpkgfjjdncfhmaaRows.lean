/-
  No cell of these rows narrows 'for every input' (looked for: loops, veiled, ifaces, maps, wideKeys, modest, calm, conditions, laid).
  DERIVED. THE GIVEN ROWS OF THIS SEAT. 12 by the template 'for every input the law returns true; each argument reads behind the call as it read before'; 0 by the template 'total and deterministic' (their statements: YtpkgfjjdncfhmaaTotals.lean).
  GIVEN WITH THE SEED: the statements are not yours to turn. If you find one false, say at which input.
  Laid BY PROGRAM, IN A SANDBOX (cutbox-rows.mjs): the forced cells as the released guide's own fill.sh prints them over the translation 571b2345e8061e9b… (all of the seat's roots in one cut). By AI agents, Wed Nov 11 2026. No macro, syntax, notation, axiom, sorry.
-/
import Derived.Test.YtpkgfjjdncfhmaaChecked
import GoSem.Claim
import GoSem.ClaimJoined
import GoSem.ClaimMapViews
import Derived.JoinedTies
import Derived.KernelRfl
namespace Go.Proofs.Ytpkgfjjdncfhmaa
/- THE CELL 'sum', in the pinned program and in every row, IS THE sha256 OF THE DUMP (.gsa) THAT YtpkgfjjdncfhmaaProg.lean LOADS. Nothing in Lean hashes anything: it is a label: what it is worth is what the hold of that sum in a sandbox is worth. -/
noncomputable def Try.pinned : Pinned := { name := "ytpkgfjjdncfhmaa", sum := "571b2345e8061e9b571c2656ee37edcd855ed58aaeb9c4e7690ea49dd5f1d6f8", checked := Try.checked }
namespace Rows
def none {H : Type} : Left H := { results := [], args := [] }

/-- 'laws.FnExactOrValues': WHATEVER THE INPUT: true; the input reads as it did. -/
def fnExactOrValuesSpec : ChangeSpec := { name := "fnExactOrValues", fn := fun _ => fun
  | [d1, d2, d3] => { results := [.lit (.bool true)], args := [d1, d2, d3] }
  | _ => none }
def fnExactOrValuesRow : OpenClaim := { program := "ytpkgfjjdncfhmaa", sum := "571b2345e8061e9b571c2656ee37edcd855ed58aaeb9c4e7690ea49dd5f1d6f8", func := "loop.example/namedflags/laws.FnExactOrValues", spec := "fnExactOrValues", unfollowed := true, recurses := true, apart := false }
def FnExactOrValuesSaid : Prop := fnExactOrValuesRow.holds Try.pinned (OpenSpec.ofChange fnExactOrValuesSpec)

/-- ITS FALSE NEIGHBOUR: 'it returns false'. Refute it at one input. -/
def fnExactOrValuesWrong : ChangeSpec := { name := "fnExactOrValues", fn := fun _ => fun
  | [d1, d2, d3] => { results := [.lit (.bool false)], args := [d1, d2, d3] }
  | _ => none }
def FnExactOrValuesWrongFalsely : Prop := fnExactOrValuesRow.holds Try.pinned (OpenSpec.ofChange fnExactOrValuesWrong)

/-- 'laws.FnExactAndValues': WHATEVER THE INPUT: true; the input reads as it did. -/
def fnExactAndValuesSpec : ChangeSpec := { name := "fnExactAndValues", fn := fun _ => fun
  | [d1, d2, d3] => { results := [.lit (.bool true)], args := [d1, d2, d3] }
  | _ => none }
def fnExactAndValuesRow : OpenClaim := { program := "ytpkgfjjdncfhmaa", sum := "571b2345e8061e9b571c2656ee37edcd855ed58aaeb9c4e7690ea49dd5f1d6f8", func := "loop.example/namedflags/laws.FnExactAndValues", spec := "fnExactAndValues", unfollowed := true, recurses := true, apart := false }
def FnExactAndValuesSaid : Prop := fnExactAndValuesRow.holds Try.pinned (OpenSpec.ofChange fnExactAndValuesSpec)

/-- ITS FALSE NEIGHBOUR: 'it returns false'. Refute it at one input. -/
def fnExactAndValuesWrong : ChangeSpec := { name := "fnExactAndValues", fn := fun _ => fun
  | [d1, d2, d3] => { results := [.lit (.bool false)], args := [d1, d2, d3] }
  | _ => none }
def FnExactAndValuesWrongFalsely : Prop := fnExactAndValuesRow.holds Try.pinned (OpenSpec.ofChange fnExactAndValuesWrong)

/-- 'laws.FnExactXorValues': WHATEVER THE INPUT: true; the input reads as it did. -/
def fnExactXorValuesSpec : ChangeSpec := { name := "fnExactXorValues", fn := fun _ => fun
  | [d1, d2, d3] => { results := [.lit (.bool true)], args := [d1, d2, d3] }
  | _ => none }
def fnExactXorValuesRow : OpenClaim := { program := "ytpkgfjjdncfhmaa", sum := "571b2345e8061e9b571c2656ee37edcd855ed58aaeb9c4e7690ea49dd5f1d6f8", func := "loop.example/namedflags/laws.FnExactXorValues", spec := "fnExactXorValues", unfollowed := true, recurses := true, apart := false }
def FnExactXorValuesSaid : Prop := fnExactXorValuesRow.holds Try.pinned (OpenSpec.ofChange fnExactXorValuesSpec)

/-- ITS FALSE NEIGHBOUR: 'it returns false'. Refute it at one input. -/
def fnExactXorValuesWrong : ChangeSpec := { name := "fnExactXorValues", fn := fun _ => fun
  | [d1, d2, d3] => { results := [.lit (.bool false)], args := [d1, d2, d3] }
  | _ => none }
def FnExactXorValuesWrongFalsely : Prop := fnExactXorValuesRow.holds Try.pinned (OpenSpec.ofChange fnExactXorValuesWrong)

/-- 'laws.FnExactLessValues': WHATEVER THE INPUT: true; the input reads as it did. -/
def fnExactLessValuesSpec : ChangeSpec := { name := "fnExactLessValues", fn := fun _ => fun
  | [d1, d2, d3] => { results := [.lit (.bool true)], args := [d1, d2, d3] }
  | _ => none }
def fnExactLessValuesRow : OpenClaim := { program := "ytpkgfjjdncfhmaa", sum := "571b2345e8061e9b571c2656ee37edcd855ed58aaeb9c4e7690ea49dd5f1d6f8", func := "loop.example/namedflags/laws.FnExactLessValues", spec := "fnExactLessValues", unfollowed := true, recurses := true, apart := false }
def FnExactLessValuesSaid : Prop := fnExactLessValuesRow.holds Try.pinned (OpenSpec.ofChange fnExactLessValuesSpec)

/-- ITS FALSE NEIGHBOUR: 'it returns false'. Refute it at one input. -/
def fnExactLessValuesWrong : ChangeSpec := { name := "fnExactLessValues", fn := fun _ => fun
  | [d1, d2, d3] => { results := [.lit (.bool false)], args := [d1, d2, d3] }
  | _ => none }
def FnExactLessValuesWrongFalsely : Prop := fnExactLessValuesRow.holds Try.pinned (OpenSpec.ofChange fnExactLessValuesWrong)

/-- 'laws.FnExactInvertValue': WHATEVER THE INPUT: true; the input reads as it did. -/
def fnExactInvertValueSpec : ChangeSpec := { name := "fnExactInvertValue", fn := fun _ => fun
  | [d1, d2] => { results := [.lit (.bool true)], args := [d1, d2] }
  | _ => none }
def fnExactInvertValueRow : OpenClaim := { program := "ytpkgfjjdncfhmaa", sum := "571b2345e8061e9b571c2656ee37edcd855ed58aaeb9c4e7690ea49dd5f1d6f8", func := "loop.example/namedflags/laws.FnExactInvertValue", spec := "fnExactInvertValue", unfollowed := true, recurses := true, apart := false }
def FnExactInvertValueSaid : Prop := fnExactInvertValueRow.holds Try.pinned (OpenSpec.ofChange fnExactInvertValueSpec)

/-- ITS FALSE NEIGHBOUR: 'it returns false'. Refute it at one input. -/
def fnExactInvertValueWrong : ChangeSpec := { name := "fnExactInvertValue", fn := fun _ => fun
  | [d1, d2] => { results := [.lit (.bool false)], args := [d1, d2] }
  | _ => none }
def FnExactInvertValueWrongFalsely : Prop := fnExactInvertValueRow.holds Try.pinned (OpenSpec.ofChange fnExactInvertValueWrong)

/-- 'laws.FnExactHasAll': WHATEVER THE INPUT: true; the input reads as it did. -/
def fnExactHasAllSpec : ChangeSpec := { name := "fnExactHasAll", fn := fun _ => fun
  | [d1, d2, d3] => { results := [.lit (.bool true)], args := [d1, d2, d3] }
  | _ => none }
def fnExactHasAllRow : OpenClaim := { program := "ytpkgfjjdncfhmaa", sum := "571b2345e8061e9b571c2656ee37edcd855ed58aaeb9c4e7690ea49dd5f1d6f8", func := "loop.example/namedflags/laws.FnExactHasAll", spec := "fnExactHasAll", unfollowed := true, recurses := true, apart := false }
def FnExactHasAllSaid : Prop := fnExactHasAllRow.holds Try.pinned (OpenSpec.ofChange fnExactHasAllSpec)

/-- ITS FALSE NEIGHBOUR: 'it returns false'. Refute it at one input. -/
def fnExactHasAllWrong : ChangeSpec := { name := "fnExactHasAll", fn := fun _ => fun
  | [d1, d2, d3] => { results := [.lit (.bool false)], args := [d1, d2, d3] }
  | _ => none }
def FnExactHasAllWrongFalsely : Prop := fnExactHasAllRow.holds Try.pinned (OpenSpec.ofChange fnExactHasAllWrong)

/-- 'laws.FnExactNamesIn': WHATEVER THE INPUT: true; the input reads as it did. -/
def fnExactNamesInSpec : ChangeSpec := { name := "fnExactNamesIn", fn := fun _ => fun
  | [d1, d2] => { results := [.lit (.bool true)], args := [d1, d2] }
  | _ => none }
def fnExactNamesInRow : OpenClaim := { program := "ytpkgfjjdncfhmaa", sum := "571b2345e8061e9b571c2656ee37edcd855ed58aaeb9c4e7690ea49dd5f1d6f8", func := "loop.example/namedflags/laws.FnExactNamesIn", spec := "fnExactNamesIn", unfollowed := true, recurses := true, apart := false }
def FnExactNamesInSaid : Prop := fnExactNamesInRow.holds Try.pinned (OpenSpec.ofChange fnExactNamesInSpec)

/-- ITS FALSE NEIGHBOUR: 'it returns false'. Refute it at one input. -/
def fnExactNamesInWrong : ChangeSpec := { name := "fnExactNamesIn", fn := fun _ => fun
  | [d1, d2] => { results := [.lit (.bool false)], args := [d1, d2] }
  | _ => none }
def FnExactNamesInWrongFalsely : Prop := fnExactNamesInRow.holds Try.pinned (OpenSpec.ofChange fnExactNamesInWrong)

/-- 'laws.FnExactRestIn': WHATEVER THE INPUT: true; the input reads as it did. -/
def fnExactRestInSpec : ChangeSpec := { name := "fnExactRestIn", fn := fun _ => fun
  | [d1, d2] => { results := [.lit (.bool true)], args := [d1, d2] }
  | _ => none }
def fnExactRestInRow : OpenClaim := { program := "ytpkgfjjdncfhmaa", sum := "571b2345e8061e9b571c2656ee37edcd855ed58aaeb9c4e7690ea49dd5f1d6f8", func := "loop.example/namedflags/laws.FnExactRestIn", spec := "fnExactRestIn", unfollowed := true, recurses := true, apart := false }
def FnExactRestInSaid : Prop := fnExactRestInRow.holds Try.pinned (OpenSpec.ofChange fnExactRestInSpec)

/-- ITS FALSE NEIGHBOUR: 'it returns false'. Refute it at one input. -/
def fnExactRestInWrong : ChangeSpec := { name := "fnExactRestIn", fn := fun _ => fun
  | [d1, d2] => { results := [.lit (.bool false)], args := [d1, d2] }
  | _ => none }
def FnExactRestInWrongFalsely : Prop := fnExactRestInRow.holds Try.pinned (OpenSpec.ofChange fnExactRestInWrong)

/-- 'laws.FnExactCountBits': WHATEVER THE INPUT: true; the input reads as it did. -/
def fnExactCountBitsSpec : ChangeSpec := { name := "fnExactCountBits", fn := fun _ => fun
  | [d1, d2] => { results := [.lit (.bool true)], args := [d1, d2] }
  | _ => none }
def fnExactCountBitsRow : OpenClaim := { program := "ytpkgfjjdncfhmaa", sum := "571b2345e8061e9b571c2656ee37edcd855ed58aaeb9c4e7690ea49dd5f1d6f8", func := "loop.example/namedflags/laws.FnExactCountBits", spec := "fnExactCountBits", unfollowed := true, recurses := true, apart := false }
def FnExactCountBitsSaid : Prop := fnExactCountBitsRow.holds Try.pinned (OpenSpec.ofChange fnExactCountBitsSpec)

/-- ITS FALSE NEIGHBOUR: 'it returns false'. Refute it at one input. -/
def fnExactCountBitsWrong : ChangeSpec := { name := "fnExactCountBits", fn := fun _ => fun
  | [d1, d2] => { results := [.lit (.bool false)], args := [d1, d2] }
  | _ => none }
def FnExactCountBitsWrongFalsely : Prop := fnExactCountBitsRow.holds Try.pinned (OpenSpec.ofChange fnExactCountBitsWrong)

/-- 'laws.FnExactCompareValues': WHATEVER THE INPUT: true; the input reads as it did. -/
def fnExactCompareValuesSpec : ChangeSpec := { name := "fnExactCompareValues", fn := fun _ => fun
  | [d1, d2, d3] => { results := [.lit (.bool true)], args := [d1, d2, d3] }
  | _ => none }
def fnExactCompareValuesRow : OpenClaim := { program := "ytpkgfjjdncfhmaa", sum := "571b2345e8061e9b571c2656ee37edcd855ed58aaeb9c4e7690ea49dd5f1d6f8", func := "loop.example/namedflags/laws.FnExactCompareValues", spec := "fnExactCompareValues", unfollowed := true, recurses := true, apart := false }
def FnExactCompareValuesSaid : Prop := fnExactCompareValuesRow.holds Try.pinned (OpenSpec.ofChange fnExactCompareValuesSpec)

/-- ITS FALSE NEIGHBOUR: 'it returns false'. Refute it at one input. -/
def fnExactCompareValuesWrong : ChangeSpec := { name := "fnExactCompareValues", fn := fun _ => fun
  | [d1, d2, d3] => { results := [.lit (.bool false)], args := [d1, d2, d3] }
  | _ => none }
def FnExactCompareValuesWrongFalsely : Prop := fnExactCompareValuesRow.holds Try.pinned (OpenSpec.ofChange fnExactCompareValuesWrong)

/-- 'laws.FnExactPartsOf': WHATEVER THE INPUT: true; the input reads as it did. -/
def fnExactPartsOfSpec : ChangeSpec := { name := "fnExactPartsOf", fn := fun _ => fun
  | [d1, d2] => { results := [.lit (.bool true)], args := [d1, d2] }
  | _ => none }
def fnExactPartsOfRow : OpenClaim := { program := "ytpkgfjjdncfhmaa", sum := "571b2345e8061e9b571c2656ee37edcd855ed58aaeb9c4e7690ea49dd5f1d6f8", func := "loop.example/namedflags/laws.FnExactPartsOf", spec := "fnExactPartsOf", unfollowed := true, recurses := true, apart := false }
def FnExactPartsOfSaid : Prop := fnExactPartsOfRow.holds Try.pinned (OpenSpec.ofChange fnExactPartsOfSpec)

/-- ITS FALSE NEIGHBOUR: 'it returns false'. Refute it at one input. -/
def fnExactPartsOfWrong : ChangeSpec := { name := "fnExactPartsOf", fn := fun _ => fun
  | [d1, d2] => { results := [.lit (.bool false)], args := [d1, d2] }
  | _ => none }
def FnExactPartsOfWrongFalsely : Prop := fnExactPartsOfRow.holds Try.pinned (OpenSpec.ofChange fnExactPartsOfWrong)

/-- 'laws.FnExactFromNames': WHATEVER THE INPUT: true; the input reads as it did. -/
def fnExactFromNamesSpec : ChangeSpec := { name := "fnExactFromNames", fn := fun _ => fun
  | [d1, d2] => { results := [.lit (.bool true)], args := [d1, d2] }
  | _ => none }
def fnExactFromNamesRow : OpenClaim := { program := "ytpkgfjjdncfhmaa", sum := "571b2345e8061e9b571c2656ee37edcd855ed58aaeb9c4e7690ea49dd5f1d6f8", func := "loop.example/namedflags/laws.FnExactFromNames", spec := "fnExactFromNames", unfollowed := true, recurses := true, apart := false }
def FnExactFromNamesSaid : Prop := fnExactFromNamesRow.holds Try.pinned (OpenSpec.ofChange fnExactFromNamesSpec)

/-- ITS FALSE NEIGHBOUR: 'it returns false'. Refute it at one input. -/
def fnExactFromNamesWrong : ChangeSpec := { name := "fnExactFromNames", fn := fun _ => fun
  | [d1, d2] => { results := [.lit (.bool false)], args := [d1, d2] }
  | _ => none }
def FnExactFromNamesWrongFalsely : Prop := fnExactFromNamesRow.holds Try.pinned (OpenSpec.ofChange fnExactFromNamesWrong)

/- THE SECOND FORM. 'bulk': how many values and letters a reading holds, each counted each time it is reached (what is shared counts as often as it is met; a slice's spare places count too). A statement '..UptoSaid' is the law's where the arguments, and the package variables that the reading takes, are together of bulk at most 1048576: NARROWER than '..Said'. Prove '..Said' where nothing that the law and all that it calls make is longer than what came in: it says more and counts as full. Else prove '..UptoSaid'. A law counts once. -/
mutual
def uptoBulk {H : Type} : DataW H → Nat
  | .lit (.string bytes) => bytes.length + 1
  | .lit _ => 1
  | .nil => 1
  | .ptr d => uptoBulk d + 1
  | .slice elems spare => uptoBulkAll elems + uptoBulkAll spare + 1
  | .agg parts => uptoBulkAll parts + 1
  | .iface _ d => uptoBulk d + 1
  | .map entries => uptoBulkEntries entries + 1
  | .held _ => 1
def uptoBulkAll {H : Type} : List (DataW H) → Nat
  | [] => 0
  | d :: r => uptoBulk d + uptoBulkAll r
def uptoBulkEntries {H : Type} : List (Lit × DataW H) → Nat
  | [] => 0
  | x :: r => uptoBulkEntry x + uptoBulkEntries r
def uptoBulkEntry {H : Type} : Lit × DataW H → Nat
  | (.string bytes, d) => bytes.length + uptoBulk d + 1
  | (_, d) => uptoBulk d + 1
 end
def uptoSmall : (H : Type) → List (DataW H) → Bool := fun _ ds => decide (uptoBulkAll ds ≤ 1048576)
def OpenSpec.upto (s : _root_.Go.ChangeSpec) : _root_.Go.OpenSpec := { _root_.Go.OpenSpec.ofChange s with cond := some uptoSmall }

/-- 'laws.FnExactOrValues', WHERE WHAT IT READS IS OF BULK AT MOST 1048576: true; the input reads as it did. -/
def fnExactOrValuesUptoRow : OpenClaim := { program := "ytpkgfjjdncfhmaa", sum := "571b2345e8061e9b571c2656ee37edcd855ed58aaeb9c4e7690ea49dd5f1d6f8", func := "loop.example/namedflags/laws.FnExactOrValues", spec := "fnExactOrValues", unfollowed := true, recurses := true, apart := false, narrowed := true }
def FnExactOrValuesUptoSaid : Prop := fnExactOrValuesUptoRow.holds Try.pinned (OpenSpec.upto fnExactOrValuesSpec)

/-- 'laws.FnExactAndValues', WHERE WHAT IT READS IS OF BULK AT MOST 1048576: true; the input reads as it did. -/
def fnExactAndValuesUptoRow : OpenClaim := { program := "ytpkgfjjdncfhmaa", sum := "571b2345e8061e9b571c2656ee37edcd855ed58aaeb9c4e7690ea49dd5f1d6f8", func := "loop.example/namedflags/laws.FnExactAndValues", spec := "fnExactAndValues", unfollowed := true, recurses := true, apart := false, narrowed := true }
def FnExactAndValuesUptoSaid : Prop := fnExactAndValuesUptoRow.holds Try.pinned (OpenSpec.upto fnExactAndValuesSpec)

/-- 'laws.FnExactXorValues', WHERE WHAT IT READS IS OF BULK AT MOST 1048576: true; the input reads as it did. -/
def fnExactXorValuesUptoRow : OpenClaim := { program := "ytpkgfjjdncfhmaa", sum := "571b2345e8061e9b571c2656ee37edcd855ed58aaeb9c4e7690ea49dd5f1d6f8", func := "loop.example/namedflags/laws.FnExactXorValues", spec := "fnExactXorValues", unfollowed := true, recurses := true, apart := false, narrowed := true }
def FnExactXorValuesUptoSaid : Prop := fnExactXorValuesUptoRow.holds Try.pinned (OpenSpec.upto fnExactXorValuesSpec)

/-- 'laws.FnExactLessValues', WHERE WHAT IT READS IS OF BULK AT MOST 1048576: true; the input reads as it did. -/
def fnExactLessValuesUptoRow : OpenClaim := { program := "ytpkgfjjdncfhmaa", sum := "571b2345e8061e9b571c2656ee37edcd855ed58aaeb9c4e7690ea49dd5f1d6f8", func := "loop.example/namedflags/laws.FnExactLessValues", spec := "fnExactLessValues", unfollowed := true, recurses := true, apart := false, narrowed := true }
def FnExactLessValuesUptoSaid : Prop := fnExactLessValuesUptoRow.holds Try.pinned (OpenSpec.upto fnExactLessValuesSpec)

/-- 'laws.FnExactInvertValue', WHERE WHAT IT READS IS OF BULK AT MOST 1048576: true; the input reads as it did. -/
def fnExactInvertValueUptoRow : OpenClaim := { program := "ytpkgfjjdncfhmaa", sum := "571b2345e8061e9b571c2656ee37edcd855ed58aaeb9c4e7690ea49dd5f1d6f8", func := "loop.example/namedflags/laws.FnExactInvertValue", spec := "fnExactInvertValue", unfollowed := true, recurses := true, apart := false, narrowed := true }
def FnExactInvertValueUptoSaid : Prop := fnExactInvertValueUptoRow.holds Try.pinned (OpenSpec.upto fnExactInvertValueSpec)

/-- 'laws.FnExactHasAll', WHERE WHAT IT READS IS OF BULK AT MOST 1048576: true; the input reads as it did. -/
def fnExactHasAllUptoRow : OpenClaim := { program := "ytpkgfjjdncfhmaa", sum := "571b2345e8061e9b571c2656ee37edcd855ed58aaeb9c4e7690ea49dd5f1d6f8", func := "loop.example/namedflags/laws.FnExactHasAll", spec := "fnExactHasAll", unfollowed := true, recurses := true, apart := false, narrowed := true }
def FnExactHasAllUptoSaid : Prop := fnExactHasAllUptoRow.holds Try.pinned (OpenSpec.upto fnExactHasAllSpec)

/-- 'laws.FnExactNamesIn', WHERE WHAT IT READS IS OF BULK AT MOST 1048576: true; the input reads as it did. -/
def fnExactNamesInUptoRow : OpenClaim := { program := "ytpkgfjjdncfhmaa", sum := "571b2345e8061e9b571c2656ee37edcd855ed58aaeb9c4e7690ea49dd5f1d6f8", func := "loop.example/namedflags/laws.FnExactNamesIn", spec := "fnExactNamesIn", unfollowed := true, recurses := true, apart := false, narrowed := true }
def FnExactNamesInUptoSaid : Prop := fnExactNamesInUptoRow.holds Try.pinned (OpenSpec.upto fnExactNamesInSpec)

/-- 'laws.FnExactRestIn', WHERE WHAT IT READS IS OF BULK AT MOST 1048576: true; the input reads as it did. -/
def fnExactRestInUptoRow : OpenClaim := { program := "ytpkgfjjdncfhmaa", sum := "571b2345e8061e9b571c2656ee37edcd855ed58aaeb9c4e7690ea49dd5f1d6f8", func := "loop.example/namedflags/laws.FnExactRestIn", spec := "fnExactRestIn", unfollowed := true, recurses := true, apart := false, narrowed := true }
def FnExactRestInUptoSaid : Prop := fnExactRestInUptoRow.holds Try.pinned (OpenSpec.upto fnExactRestInSpec)

/-- 'laws.FnExactCountBits', WHERE WHAT IT READS IS OF BULK AT MOST 1048576: true; the input reads as it did. -/
def fnExactCountBitsUptoRow : OpenClaim := { program := "ytpkgfjjdncfhmaa", sum := "571b2345e8061e9b571c2656ee37edcd855ed58aaeb9c4e7690ea49dd5f1d6f8", func := "loop.example/namedflags/laws.FnExactCountBits", spec := "fnExactCountBits", unfollowed := true, recurses := true, apart := false, narrowed := true }
def FnExactCountBitsUptoSaid : Prop := fnExactCountBitsUptoRow.holds Try.pinned (OpenSpec.upto fnExactCountBitsSpec)

/-- 'laws.FnExactCompareValues', WHERE WHAT IT READS IS OF BULK AT MOST 1048576: true; the input reads as it did. -/
def fnExactCompareValuesUptoRow : OpenClaim := { program := "ytpkgfjjdncfhmaa", sum := "571b2345e8061e9b571c2656ee37edcd855ed58aaeb9c4e7690ea49dd5f1d6f8", func := "loop.example/namedflags/laws.FnExactCompareValues", spec := "fnExactCompareValues", unfollowed := true, recurses := true, apart := false, narrowed := true }
def FnExactCompareValuesUptoSaid : Prop := fnExactCompareValuesUptoRow.holds Try.pinned (OpenSpec.upto fnExactCompareValuesSpec)

/-- 'laws.FnExactPartsOf', WHERE WHAT IT READS IS OF BULK AT MOST 1048576: true; the input reads as it did. -/
def fnExactPartsOfUptoRow : OpenClaim := { program := "ytpkgfjjdncfhmaa", sum := "571b2345e8061e9b571c2656ee37edcd855ed58aaeb9c4e7690ea49dd5f1d6f8", func := "loop.example/namedflags/laws.FnExactPartsOf", spec := "fnExactPartsOf", unfollowed := true, recurses := true, apart := false, narrowed := true }
def FnExactPartsOfUptoSaid : Prop := fnExactPartsOfUptoRow.holds Try.pinned (OpenSpec.upto fnExactPartsOfSpec)

/-- 'laws.FnExactFromNames', WHERE WHAT IT READS IS OF BULK AT MOST 1048576: true; the input reads as it did. -/
def fnExactFromNamesUptoRow : OpenClaim := { program := "ytpkgfjjdncfhmaa", sum := "571b2345e8061e9b571c2656ee37edcd855ed58aaeb9c4e7690ea49dd5f1d6f8", func := "loop.example/namedflags/laws.FnExactFromNames", spec := "fnExactFromNames", unfollowed := true, recurses := true, apart := false, narrowed := true }
def FnExactFromNamesUptoSaid : Prop := fnExactFromNamesUptoRow.holds Try.pinned (OpenSpec.upto fnExactFromNamesSpec)

end Rows
end Go.Proofs.Ytpkgfjjdncfhmaa
