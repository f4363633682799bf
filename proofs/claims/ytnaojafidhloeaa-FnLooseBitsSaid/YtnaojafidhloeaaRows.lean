/-
  No cell of these rows narrows 'for every input' (looked for: loops, veiled, ifaces, maps, wideKeys, modest, calm, conditions, laid).
  DERIVED. THE GIVEN ROWS OF THIS SEAT. 12 by the template 'for every input the law returns true; each argument reads behind the call as it read before'; 0 by the template 'total and deterministic' (their statements: YtnaojafidhloeaaTotals.lean).
  GIVEN WITH THE SEED: the statements are not yours to turn. If you find one false, say at which input.
  Laid BY PROGRAM, IN A SANDBOX (cutbox-rows.mjs): the forced cells as the released guide's own fill.sh prints them over the translation e94937d582319b1e… (all of the seat's roots in one cut). By AI agents, Wed Nov 11 2026. No macro, syntax, notation, axiom, sorry.
-/
import Derived.Test.YtnaojafidhloeaaChecked
import GoSem.Claim
import GoSem.ClaimJoined
import GoSem.ClaimMapViews
import Derived.JoinedTies
import Derived.KernelRfl
namespace Go.Proofs.Ytnaojafidhloeaa
/- THE CELL 'sum', in the pinned program and in every row, IS THE sha256 OF THE DUMP (.gsa) THAT YtnaojafidhloeaaProg.lean LOADS. Nothing in Lean hashes anything: it is a label: what it is worth is what the hold of that sum in a sandbox is worth. -/
noncomputable def Try.pinned : Pinned := { name := "ytnaojafidhloeaa", sum := "e94937d582319b1e66def0695e137577dc0b12d22f3af93e88a9c021dab9e54e", checked := Try.checked }
namespace Rows
def none {H : Type} : Left H := { results := [], args := [] }

/-- 'laws.FnMaskOf': WHATEVER THE INPUT: true; the input reads as it did. -/
def fnMaskOfSpec : ChangeSpec := { name := "fnMaskOf", fn := fun _ => fun
  | [d] => { results := [.lit (.bool true)], args := [d] }
  | _ => none }
def fnMaskOfRow : OpenClaim := { program := "ytnaojafidhloeaa", sum := "e94937d582319b1e66def0695e137577dc0b12d22f3af93e88a9c021dab9e54e", func := "loop.example/namedflags/laws.FnMaskOf", spec := "fnMaskOf", unfollowed := true, recurses := true, apart := false }
def FnMaskOfSaid : Prop := fnMaskOfRow.holds Try.pinned (OpenSpec.ofChange fnMaskOfSpec)

/-- ITS FALSE NEIGHBOUR: 'it returns false'. Refute it at one input. -/
def fnMaskOfWrong : ChangeSpec := { name := "fnMaskOf", fn := fun _ => fun
  | [d] => { results := [.lit (.bool false)], args := [d] }
  | _ => none }
def FnMaskOfWrongFalsely : Prop := fnMaskOfRow.holds Try.pinned (OpenSpec.ofChange fnMaskOfWrong)

/-- 'laws.FnLooseBits': WHATEVER THE INPUT: true; the input reads as it did. -/
def fnLooseBitsSpec : ChangeSpec := { name := "fnLooseBits", fn := fun _ => fun
  | [d] => { results := [.lit (.bool true)], args := [d] }
  | _ => none }
def fnLooseBitsRow : OpenClaim := { program := "ytnaojafidhloeaa", sum := "e94937d582319b1e66def0695e137577dc0b12d22f3af93e88a9c021dab9e54e", func := "loop.example/namedflags/laws.FnLooseBits", spec := "fnLooseBits", unfollowed := true, recurses := true, apart := false }
def FnLooseBitsSaid : Prop := fnLooseBitsRow.holds Try.pinned (OpenSpec.ofChange fnLooseBitsSpec)

/-- ITS FALSE NEIGHBOUR: 'it returns false'. Refute it at one input. -/
def fnLooseBitsWrong : ChangeSpec := { name := "fnLooseBits", fn := fun _ => fun
  | [d] => { results := [.lit (.bool false)], args := [d] }
  | _ => none }
def FnLooseBitsWrongFalsely : Prop := fnLooseBitsRow.holds Try.pinned (OpenSpec.ofChange fnLooseBitsWrong)

/-- 'laws.FnHighOf': WHATEVER THE INPUT: true; the input reads as it did. -/
def fnHighOfSpec : ChangeSpec := { name := "fnHighOf", fn := fun _ => fun
  | [d] => { results := [.lit (.bool true)], args := [d] }
  | _ => none }
def fnHighOfRow : OpenClaim := { program := "ytnaojafidhloeaa", sum := "e94937d582319b1e66def0695e137577dc0b12d22f3af93e88a9c021dab9e54e", func := "loop.example/namedflags/laws.FnHighOf", spec := "fnHighOf", unfollowed := true, recurses := true, apart := false }
def FnHighOfSaid : Prop := fnHighOfRow.holds Try.pinned (OpenSpec.ofChange fnHighOfSpec)

/-- ITS FALSE NEIGHBOUR: 'it returns false'. Refute it at one input. -/
def fnHighOfWrong : ChangeSpec := { name := "fnHighOf", fn := fun _ => fun
  | [d] => { results := [.lit (.bool false)], args := [d] }
  | _ => none }
def FnHighOfWrongFalsely : Prop := fnHighOfRow.holds Try.pinned (OpenSpec.ofChange fnHighOfWrong)

/-- 'laws.FnMakeValueNot': WHATEVER THE INPUT: true; the input reads as it did. -/
def fnMakeValueNotSpec : ChangeSpec := { name := "fnMakeValueNot", fn := fun _ => fun
  | [d] => { results := [.lit (.bool true)], args := [d] }
  | _ => none }
def fnMakeValueNotRow : OpenClaim := { program := "ytnaojafidhloeaa", sum := "e94937d582319b1e66def0695e137577dc0b12d22f3af93e88a9c021dab9e54e", func := "loop.example/namedflags/laws.FnMakeValueNot", spec := "fnMakeValueNot", unfollowed := true, recurses := true, apart := false }
def FnMakeValueNotSaid : Prop := fnMakeValueNotRow.holds Try.pinned (OpenSpec.ofChange fnMakeValueNotSpec)

/-- ITS FALSE NEIGHBOUR: 'it returns false'. Refute it at one input. -/
def fnMakeValueNotWrong : ChangeSpec := { name := "fnMakeValueNot", fn := fun _ => fun
  | [d] => { results := [.lit (.bool false)], args := [d] }
  | _ => none }
def FnMakeValueNotWrongFalsely : Prop := fnMakeValueNotRow.holds Try.pinned (OpenSpec.ofChange fnMakeValueNotWrong)

/-- 'laws.FnOrValues': WHATEVER THE INPUT: true; the input reads as it did. -/
def fnOrValuesSpec : ChangeSpec := { name := "fnOrValues", fn := fun _ => fun
  | [d] => { results := [.lit (.bool true)], args := [d] }
  | _ => none }
def fnOrValuesRow : OpenClaim := { program := "ytnaojafidhloeaa", sum := "e94937d582319b1e66def0695e137577dc0b12d22f3af93e88a9c021dab9e54e", func := "loop.example/namedflags/laws.FnOrValues", spec := "fnOrValues", unfollowed := true, recurses := true, apart := false }
def FnOrValuesSaid : Prop := fnOrValuesRow.holds Try.pinned (OpenSpec.ofChange fnOrValuesSpec)

/-- ITS FALSE NEIGHBOUR: 'it returns false'. Refute it at one input. -/
def fnOrValuesWrong : ChangeSpec := { name := "fnOrValues", fn := fun _ => fun
  | [d] => { results := [.lit (.bool false)], args := [d] }
  | _ => none }
def FnOrValuesWrongFalsely : Prop := fnOrValuesRow.holds Try.pinned (OpenSpec.ofChange fnOrValuesWrong)

/-- 'laws.FnAndValues': WHATEVER THE INPUT: true; the input reads as it did. -/
def fnAndValuesSpec : ChangeSpec := { name := "fnAndValues", fn := fun _ => fun
  | [d] => { results := [.lit (.bool true)], args := [d] }
  | _ => none }
def fnAndValuesRow : OpenClaim := { program := "ytnaojafidhloeaa", sum := "e94937d582319b1e66def0695e137577dc0b12d22f3af93e88a9c021dab9e54e", func := "loop.example/namedflags/laws.FnAndValues", spec := "fnAndValues", unfollowed := true, recurses := true, apart := false }
def FnAndValuesSaid : Prop := fnAndValuesRow.holds Try.pinned (OpenSpec.ofChange fnAndValuesSpec)

/-- ITS FALSE NEIGHBOUR: 'it returns false'. Refute it at one input. -/
def fnAndValuesWrong : ChangeSpec := { name := "fnAndValues", fn := fun _ => fun
  | [d] => { results := [.lit (.bool false)], args := [d] }
  | _ => none }
def FnAndValuesWrongFalsely : Prop := fnAndValuesRow.holds Try.pinned (OpenSpec.ofChange fnAndValuesWrong)

/-- 'laws.FnAndValuesOr': WHATEVER THE INPUT: true; the input reads as it did. -/
def fnAndValuesOrSpec : ChangeSpec := { name := "fnAndValuesOr", fn := fun _ => fun
  | [d] => { results := [.lit (.bool true)], args := [d] }
  | _ => none }
def fnAndValuesOrRow : OpenClaim := { program := "ytnaojafidhloeaa", sum := "e94937d582319b1e66def0695e137577dc0b12d22f3af93e88a9c021dab9e54e", func := "loop.example/namedflags/laws.FnAndValuesOr", spec := "fnAndValuesOr", unfollowed := true, recurses := true, apart := false }
def FnAndValuesOrSaid : Prop := fnAndValuesOrRow.holds Try.pinned (OpenSpec.ofChange fnAndValuesOrSpec)

/-- ITS FALSE NEIGHBOUR: 'it returns false'. Refute it at one input. -/
def fnAndValuesOrWrong : ChangeSpec := { name := "fnAndValuesOr", fn := fun _ => fun
  | [d] => { results := [.lit (.bool false)], args := [d] }
  | _ => none }
def FnAndValuesOrWrongFalsely : Prop := fnAndValuesOrRow.holds Try.pinned (OpenSpec.ofChange fnAndValuesOrWrong)

/-- 'laws.FnXorValues': WHATEVER THE INPUT: true; the input reads as it did. -/
def fnXorValuesSpec : ChangeSpec := { name := "fnXorValues", fn := fun _ => fun
  | [d] => { results := [.lit (.bool true)], args := [d] }
  | _ => none }
def fnXorValuesRow : OpenClaim := { program := "ytnaojafidhloeaa", sum := "e94937d582319b1e66def0695e137577dc0b12d22f3af93e88a9c021dab9e54e", func := "loop.example/namedflags/laws.FnXorValues", spec := "fnXorValues", unfollowed := true, recurses := true, apart := false }
def FnXorValuesSaid : Prop := fnXorValuesRow.holds Try.pinned (OpenSpec.ofChange fnXorValuesSpec)

/-- ITS FALSE NEIGHBOUR: 'it returns false'. Refute it at one input. -/
def fnXorValuesWrong : ChangeSpec := { name := "fnXorValues", fn := fun _ => fun
  | [d] => { results := [.lit (.bool false)], args := [d] }
  | _ => none }
def FnXorValuesWrongFalsely : Prop := fnXorValuesRow.holds Try.pinned (OpenSpec.ofChange fnXorValuesWrong)

/-- 'laws.FnLessValues': WHATEVER THE INPUT: true; the input reads as it did. -/
def fnLessValuesSpec : ChangeSpec := { name := "fnLessValues", fn := fun _ => fun
  | [d] => { results := [.lit (.bool true)], args := [d] }
  | _ => none }
def fnLessValuesRow : OpenClaim := { program := "ytnaojafidhloeaa", sum := "e94937d582319b1e66def0695e137577dc0b12d22f3af93e88a9c021dab9e54e", func := "loop.example/namedflags/laws.FnLessValues", spec := "fnLessValues", unfollowed := true, recurses := true, apart := false }
def FnLessValuesSaid : Prop := fnLessValuesRow.holds Try.pinned (OpenSpec.ofChange fnLessValuesSpec)

/-- ITS FALSE NEIGHBOUR: 'it returns false'. Refute it at one input. -/
def fnLessValuesWrong : ChangeSpec := { name := "fnLessValues", fn := fun _ => fun
  | [d] => { results := [.lit (.bool false)], args := [d] }
  | _ => none }
def FnLessValuesWrongFalsely : Prop := fnLessValuesRow.holds Try.pinned (OpenSpec.ofChange fnLessValuesWrong)

/-- 'laws.FnInvertValue': WHATEVER THE INPUT: true; the input reads as it did. -/
def fnInvertValueSpec : ChangeSpec := { name := "fnInvertValue", fn := fun _ => fun
  | [d] => { results := [.lit (.bool true)], args := [d] }
  | _ => none }
def fnInvertValueRow : OpenClaim := { program := "ytnaojafidhloeaa", sum := "e94937d582319b1e66def0695e137577dc0b12d22f3af93e88a9c021dab9e54e", func := "loop.example/namedflags/laws.FnInvertValue", spec := "fnInvertValue", unfollowed := true, recurses := true, apart := false }
def FnInvertValueSaid : Prop := fnInvertValueRow.holds Try.pinned (OpenSpec.ofChange fnInvertValueSpec)

/-- ITS FALSE NEIGHBOUR: 'it returns false'. Refute it at one input. -/
def fnInvertValueWrong : ChangeSpec := { name := "fnInvertValue", fn := fun _ => fun
  | [d] => { results := [.lit (.bool false)], args := [d] }
  | _ => none }
def FnInvertValueWrongFalsely : Prop := fnInvertValueRow.holds Try.pinned (OpenSpec.ofChange fnInvertValueWrong)

/-- 'laws.FnInvertValueTwo': WHATEVER THE INPUT: true; the input reads as it did. -/
def fnInvertValueTwoSpec : ChangeSpec := { name := "fnInvertValueTwo", fn := fun _ => fun
  | [d] => { results := [.lit (.bool true)], args := [d] }
  | _ => none }
def fnInvertValueTwoRow : OpenClaim := { program := "ytnaojafidhloeaa", sum := "e94937d582319b1e66def0695e137577dc0b12d22f3af93e88a9c021dab9e54e", func := "loop.example/namedflags/laws.FnInvertValueTwo", spec := "fnInvertValueTwo", unfollowed := true, recurses := true, apart := false }
def FnInvertValueTwoSaid : Prop := fnInvertValueTwoRow.holds Try.pinned (OpenSpec.ofChange fnInvertValueTwoSpec)

/-- ITS FALSE NEIGHBOUR: 'it returns false'. Refute it at one input. -/
def fnInvertValueTwoWrong : ChangeSpec := { name := "fnInvertValueTwo", fn := fun _ => fun
  | [d] => { results := [.lit (.bool false)], args := [d] }
  | _ => none }
def FnInvertValueTwoWrongFalsely : Prop := fnInvertValueTwoRow.holds Try.pinned (OpenSpec.ofChange fnInvertValueTwoWrong)

/-- 'laws.FnHasAll': WHATEVER THE INPUT: true; the input reads as it did. -/
def fnHasAllSpec : ChangeSpec := { name := "fnHasAll", fn := fun _ => fun
  | [d] => { results := [.lit (.bool true)], args := [d] }
  | _ => none }
def fnHasAllRow : OpenClaim := { program := "ytnaojafidhloeaa", sum := "e94937d582319b1e66def0695e137577dc0b12d22f3af93e88a9c021dab9e54e", func := "loop.example/namedflags/laws.FnHasAll", spec := "fnHasAll", unfollowed := true, recurses := true, apart := false }
def FnHasAllSaid : Prop := fnHasAllRow.holds Try.pinned (OpenSpec.ofChange fnHasAllSpec)

/-- ITS FALSE NEIGHBOUR: 'it returns false'. Refute it at one input. -/
def fnHasAllWrong : ChangeSpec := { name := "fnHasAll", fn := fun _ => fun
  | [d] => { results := [.lit (.bool false)], args := [d] }
  | _ => none }
def FnHasAllWrongFalsely : Prop := fnHasAllRow.holds Try.pinned (OpenSpec.ofChange fnHasAllWrong)

/- THE SECOND FORM. 'bulk': how many values and letters a reading holds, each counted each time it is reached (what is shared counts as often as it is met; a slice's spare places count too). A statement '..UptoSaid' is the law's where the arguments, and the package variables that the reading takes, are together of bulk at most 1048576: NARROWER than '..Said'. Prove '..Said' where nothing that the law and all that it calls make is longer than what came in: it says more and counts as full. Else prove '..UptoSaid'. A law counts once. -/
mutual
def uptoBulk {H : Type} : DataW H → Nat
  | .lit (.string bytes) => bytes.length + 1
  | .lit _ => 1
  | .nil => 1
  | .ptr d => uptoBulk d + 1
  | .slice elems spare => uptoBulkAll elems + uptoBulkAll spare + 1
  | .agg parts => uptoBulkAll parts + 1
  | .iface _ d => uptoBulk d + 1
  | .map entries => uptoBulkEntries entries + 1
  | .held _ => 1
def uptoBulkAll {H : Type} : List (DataW H) → Nat
  | [] => 0
  | d :: r => uptoBulk d + uptoBulkAll r
def uptoBulkEntries {H : Type} : List (Lit × DataW H) → Nat
  | [] => 0
  | x :: r => uptoBulkEntry x + uptoBulkEntries r
def uptoBulkEntry {H : Type} : Lit × DataW H → Nat
  | (.string bytes, d) => bytes.length + uptoBulk d + 1
  | (_, d) => uptoBulk d + 1
 end
def uptoSmall : (H : Type) → List (DataW H) → Bool := fun _ ds => decide (uptoBulkAll ds ≤ 1048576)
def OpenSpec.upto (s : _root_.Go.ChangeSpec) : _root_.Go.OpenSpec := { _root_.Go.OpenSpec.ofChange s with cond := some uptoSmall }

/-- 'laws.FnMaskOf', WHERE WHAT IT READS IS OF BULK AT MOST 1048576: true; the input reads as it did. -/
def fnMaskOfUptoRow : OpenClaim := { program := "ytnaojafidhloeaa", sum := "e94937d582319b1e66def0695e137577dc0b12d22f3af93e88a9c021dab9e54e", func := "loop.example/namedflags/laws.FnMaskOf", spec := "fnMaskOf", unfollowed := true, recurses := true, apart := false, narrowed := true }
def FnMaskOfUptoSaid : Prop := fnMaskOfUptoRow.holds Try.pinned (OpenSpec.upto fnMaskOfSpec)

/-- 'laws.FnLooseBits', WHERE WHAT IT READS IS OF BULK AT MOST 1048576: true; the input reads as it did. -/
def fnLooseBitsUptoRow : OpenClaim := { program := "ytnaojafidhloeaa", sum := "e94937d582319b1e66def0695e137577dc0b12d22f3af93e88a9c021dab9e54e", func := "loop.example/namedflags/laws.FnLooseBits", spec := "fnLooseBits", unfollowed := true, recurses := true, apart := false, narrowed := true }
def FnLooseBitsUptoSaid : Prop := fnLooseBitsUptoRow.holds Try.pinned (OpenSpec.upto fnLooseBitsSpec)

/-- 'laws.FnHighOf', WHERE WHAT IT READS IS OF BULK AT MOST 1048576: true; the input reads as it did. -/
def fnHighOfUptoRow : OpenClaim := { program := "ytnaojafidhloeaa", sum := "e94937d582319b1e66def0695e137577dc0b12d22f3af93e88a9c021dab9e54e", func := "loop.example/namedflags/laws.FnHighOf", spec := "fnHighOf", unfollowed := true, recurses := true, apart := false, narrowed := true }
def FnHighOfUptoSaid : Prop := fnHighOfUptoRow.holds Try.pinned (OpenSpec.upto fnHighOfSpec)

/-- 'laws.FnMakeValueNot', WHERE WHAT IT READS IS OF BULK AT MOST 1048576: true; the input reads as it did. -/
def fnMakeValueNotUptoRow : OpenClaim := { program := "ytnaojafidhloeaa", sum := "e94937d582319b1e66def0695e137577dc0b12d22f3af93e88a9c021dab9e54e", func := "loop.example/namedflags/laws.FnMakeValueNot", spec := "fnMakeValueNot", unfollowed := true, recurses := true, apart := false, narrowed := true }
def FnMakeValueNotUptoSaid : Prop := fnMakeValueNotUptoRow.holds Try.pinned (OpenSpec.upto fnMakeValueNotSpec)

/-- 'laws.FnOrValues', WHERE WHAT IT READS IS OF BULK AT MOST 1048576: true; the input reads as it did. -/
def fnOrValuesUptoRow : OpenClaim := { program := "ytnaojafidhloeaa", sum := "e94937d582319b1e66def0695e137577dc0b12d22f3af93e88a9c021dab9e54e", func := "loop.example/namedflags/laws.FnOrValues", spec := "fnOrValues", unfollowed := true, recurses := true, apart := false, narrowed := true }
def FnOrValuesUptoSaid : Prop := fnOrValuesUptoRow.holds Try.pinned (OpenSpec.upto fnOrValuesSpec)

/-- 'laws.FnAndValues', WHERE WHAT IT READS IS OF BULK AT MOST 1048576: true; the input reads as it did. -/
def fnAndValuesUptoRow : OpenClaim := { program := "ytnaojafidhloeaa", sum := "e94937d582319b1e66def0695e137577dc0b12d22f3af93e88a9c021dab9e54e", func := "loop.example/namedflags/laws.FnAndValues", spec := "fnAndValues", unfollowed := true, recurses := true, apart := false, narrowed := true }
def FnAndValuesUptoSaid : Prop := fnAndValuesUptoRow.holds Try.pinned (OpenSpec.upto fnAndValuesSpec)

/-- 'laws.FnAndValuesOr', WHERE WHAT IT READS IS OF BULK AT MOST 1048576: true; the input reads as it did. -/
def fnAndValuesOrUptoRow : OpenClaim := { program := "ytnaojafidhloeaa", sum := "e94937d582319b1e66def0695e137577dc0b12d22f3af93e88a9c021dab9e54e", func := "loop.example/namedflags/laws.FnAndValuesOr", spec := "fnAndValuesOr", unfollowed := true, recurses := true, apart := false, narrowed := true }
def FnAndValuesOrUptoSaid : Prop := fnAndValuesOrUptoRow.holds Try.pinned (OpenSpec.upto fnAndValuesOrSpec)

/-- 'laws.FnXorValues', WHERE WHAT IT READS IS OF BULK AT MOST 1048576: true; the input reads as it did. -/
def fnXorValuesUptoRow : OpenClaim := { program := "ytnaojafidhloeaa", sum := "e94937d582319b1e66def0695e137577dc0b12d22f3af93e88a9c021dab9e54e", func := "loop.example/namedflags/laws.FnXorValues", spec := "fnXorValues", unfollowed := true, recurses := true, apart := false, narrowed := true }
def FnXorValuesUptoSaid : Prop := fnXorValuesUptoRow.holds Try.pinned (OpenSpec.upto fnXorValuesSpec)

/-- 'laws.FnLessValues', WHERE WHAT IT READS IS OF BULK AT MOST 1048576: true; the input reads as it did. -/
def fnLessValuesUptoRow : OpenClaim := { program := "ytnaojafidhloeaa", sum := "e94937d582319b1e66def0695e137577dc0b12d22f3af93e88a9c021dab9e54e", func := "loop.example/namedflags/laws.FnLessValues", spec := "fnLessValues", unfollowed := true, recurses := true, apart := false, narrowed := true }
def FnLessValuesUptoSaid : Prop := fnLessValuesUptoRow.holds Try.pinned (OpenSpec.upto fnLessValuesSpec)

/-- 'laws.FnInvertValue', WHERE WHAT IT READS IS OF BULK AT MOST 1048576: true; the input reads as it did. -/
def fnInvertValueUptoRow : OpenClaim := { program := "ytnaojafidhloeaa", sum := "e94937d582319b1e66def0695e137577dc0b12d22f3af93e88a9c021dab9e54e", func := "loop.example/namedflags/laws.FnInvertValue", spec := "fnInvertValue", unfollowed := true, recurses := true, apart := false, narrowed := true }
def FnInvertValueUptoSaid : Prop := fnInvertValueUptoRow.holds Try.pinned (OpenSpec.upto fnInvertValueSpec)

/-- 'laws.FnInvertValueTwo', WHERE WHAT IT READS IS OF BULK AT MOST 1048576: true; the input reads as it did. -/
def fnInvertValueTwoUptoRow : OpenClaim := { program := "ytnaojafidhloeaa", sum := "e94937d582319b1e66def0695e137577dc0b12d22f3af93e88a9c021dab9e54e", func := "loop.example/namedflags/laws.FnInvertValueTwo", spec := "fnInvertValueTwo", unfollowed := true, recurses := true, apart := false, narrowed := true }
def FnInvertValueTwoUptoSaid : Prop := fnInvertValueTwoUptoRow.holds Try.pinned (OpenSpec.upto fnInvertValueTwoSpec)

/-- 'laws.FnHasAll', WHERE WHAT IT READS IS OF BULK AT MOST 1048576: true; the input reads as it did. -/
def fnHasAllUptoRow : OpenClaim := { program := "ytnaojafidhloeaa", sum := "e94937d582319b1e66def0695e137577dc0b12d22f3af93e88a9c021dab9e54e", func := "loop.example/namedflags/laws.FnHasAll", spec := "fnHasAll", unfollowed := true, recurses := true, apart := false, narrowed := true }
def FnHasAllUptoSaid : Prop := fnHasAllUptoRow.holds Try.pinned (OpenSpec.upto fnHasAllSpec)

end Rows
end Go.Proofs.Ytnaojafidhloeaa
