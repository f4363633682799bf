/-
  No cell of these rows narrows 'for every input' (looked for: loops, veiled, ifaces, maps, wideKeys, modest, calm, conditions, laid).
  DERIVED. THE GIVEN ROWS OF THIS SEAT. 12 by the template 'for every input the law returns true; each argument reads behind the call as it read before'; 0 by the template 'total and deterministic' (their statements: YtkholjcmaebaaaaTotals.lean).
  GIVEN WITH THE SEED: the statements are not yours to turn. If you find one false, say at which input.
  Laid BY PROGRAM, IN A SANDBOX (cutbox-rows.mjs): the forced cells as the released guide's own fill.sh prints them over the translation b9d70c91720d45cf… (all of the seat's roots in one cut). By AI agents, Wed Nov 11 2026. No macro, syntax, notation, axiom, sorry.
-/
import Derived.Test.YtkholjcmaebaaaaChecked
import GoSem.Claim
import GoSem.ClaimJoined
import GoSem.ClaimMapViews
import Derived.JoinedTies
import Derived.KernelRfl
namespace Go.Proofs.Ytkholjcmaebaaaa
/- THE CELL 'sum', in the pinned program and in every row, IS THE sha256 OF THE DUMP (.gsa) THAT YtkholjcmaebaaaaProg.lean LOADS. Nothing in Lean hashes anything: it is a label: what it is worth is what the hold of that sum in a sandbox is worth. -/
noncomputable def Try.pinned : Pinned := { name := "ytkholjcmaebaaaa", sum := "b9d70c91720d45cf3387974d8e01641f585ced5aeb90f1f58a9bad06fd6ae7c4", checked := Try.checked }
namespace Rows
def none {H : Type} : Left H := { results := [], args := [] }

/-- 'laws.FnConvertValueOr': WHATEVER THE INPUT: true; the input reads as it did. -/
def fnConvertValueOrSpec : ChangeSpec := { name := "fnConvertValueOr", fn := fun _ => fun
  | [d] => { results := [.lit (.bool true)], args := [d] }
  | _ => none }
def fnConvertValueOrRow : OpenClaim := { program := "ytkholjcmaebaaaa", sum := "b9d70c91720d45cf3387974d8e01641f585ced5aeb90f1f58a9bad06fd6ae7c4", func := "loop.example/namedflags/laws.FnConvertValueOr", spec := "fnConvertValueOr", unfollowed := true, recurses := true, apart := false }
def FnConvertValueOrSaid : Prop := fnConvertValueOrRow.holds Try.pinned (OpenSpec.ofChange fnConvertValueOrSpec)

/-- ITS FALSE NEIGHBOUR: 'it returns false'. Refute it at one input. -/
def fnConvertValueOrWrong : ChangeSpec := { name := "fnConvertValueOr", fn := fun _ => fun
  | [d] => { results := [.lit (.bool false)], args := [d] }
  | _ => none }
def FnConvertValueOrWrongFalsely : Prop := fnConvertValueOrRow.holds Try.pinned (OpenSpec.ofChange fnConvertValueOrWrong)

/-- 'laws.FnFirstArm': WHATEVER THE INPUT: true; the input reads as it did. -/
def fnFirstArmSpec : ChangeSpec := { name := "fnFirstArm", fn := fun _ => fun
  | [d] => { results := [.lit (.bool true)], args := [d] }
  | _ => none }
def fnFirstArmRow : OpenClaim := { program := "ytkholjcmaebaaaa", sum := "b9d70c91720d45cf3387974d8e01641f585ced5aeb90f1f58a9bad06fd6ae7c4", func := "loop.example/namedflags/laws.FnFirstArm", spec := "fnFirstArm", unfollowed := true, recurses := true, apart := false }
def FnFirstArmSaid : Prop := fnFirstArmRow.holds Try.pinned (OpenSpec.ofChange fnFirstArmSpec)

/-- ITS FALSE NEIGHBOUR: 'it returns false'. Refute it at one input. -/
def fnFirstArmWrong : ChangeSpec := { name := "fnFirstArm", fn := fun _ => fun
  | [d] => { results := [.lit (.bool false)], args := [d] }
  | _ => none }
def FnFirstArmWrongFalsely : Prop := fnFirstArmRow.holds Try.pinned (OpenSpec.ofChange fnFirstArmWrong)

/-- 'laws.FnFirstMissed': WHATEVER THE INPUT: true; the input reads as it did. -/
def fnFirstMissedSpec : ChangeSpec := { name := "fnFirstMissed", fn := fun _ => fun
  | [d] => { results := [.lit (.bool true)], args := [d] }
  | _ => none }
def fnFirstMissedRow : OpenClaim := { program := "ytkholjcmaebaaaa", sum := "b9d70c91720d45cf3387974d8e01641f585ced5aeb90f1f58a9bad06fd6ae7c4", func := "loop.example/namedflags/laws.FnFirstMissed", spec := "fnFirstMissed", unfollowed := true, recurses := true, apart := false }
def FnFirstMissedSaid : Prop := fnFirstMissedRow.holds Try.pinned (OpenSpec.ofChange fnFirstMissedSpec)

/-- ITS FALSE NEIGHBOUR: 'it returns false'. Refute it at one input. -/
def fnFirstMissedWrong : ChangeSpec := { name := "fnFirstMissed", fn := fun _ => fun
  | [d] => { results := [.lit (.bool false)], args := [d] }
  | _ => none }
def FnFirstMissedWrongFalsely : Prop := fnFirstMissedRow.holds Try.pinned (OpenSpec.ofChange fnFirstMissedWrong)

/-- 'laws.FnFirstMissedAll': WHATEVER THE INPUT: true; the input reads as it did. -/
def fnFirstMissedAllSpec : ChangeSpec := { name := "fnFirstMissedAll", fn := fun _ => fun
  | [d] => { results := [.lit (.bool true)], args := [d] }
  | _ => none }
def fnFirstMissedAllRow : OpenClaim := { program := "ytkholjcmaebaaaa", sum := "b9d70c91720d45cf3387974d8e01641f585ced5aeb90f1f58a9bad06fd6ae7c4", func := "loop.example/namedflags/laws.FnFirstMissedAll", spec := "fnFirstMissedAll", apart := false }
def FnFirstMissedAllSaid : Prop := fnFirstMissedAllRow.holds Try.pinned (OpenSpec.ofChange fnFirstMissedAllSpec)

/-- ITS FALSE NEIGHBOUR: 'it returns false'. Refute it at one input. -/
def fnFirstMissedAllWrong : ChangeSpec := { name := "fnFirstMissedAll", fn := fun _ => fun
  | [d] => { results := [.lit (.bool false)], args := [d] }
  | _ => none }
def FnFirstMissedAllWrongFalsely : Prop := fnFirstMissedAllRow.holds Try.pinned (OpenSpec.ofChange fnFirstMissedAllWrong)

/-- 'laws.FnDeadArms': WHATEVER THE INPUT: true; the input reads as it did. -/
def fnDeadArmsSpec : ChangeSpec := { name := "fnDeadArms", fn := fun _ => fun
  | [d] => { results := [.lit (.bool true)], args := [d] }
  | _ => none }
def fnDeadArmsRow : OpenClaim := { program := "ytkholjcmaebaaaa", sum := "b9d70c91720d45cf3387974d8e01641f585ced5aeb90f1f58a9bad06fd6ae7c4", func := "loop.example/namedflags/laws.FnDeadArms", spec := "fnDeadArms", apart := false }
def FnDeadArmsSaid : Prop := fnDeadArmsRow.holds Try.pinned (OpenSpec.ofChange fnDeadArmsSpec)

/-- ITS FALSE NEIGHBOUR: 'it returns false'. Refute it at one input. -/
def fnDeadArmsWrong : ChangeSpec := { name := "fnDeadArms", fn := fun _ => fun
  | [d] => { results := [.lit (.bool false)], args := [d] }
  | _ => none }
def FnDeadArmsWrongFalsely : Prop := fnDeadArmsRow.holds Try.pinned (OpenSpec.ofChange fnDeadArmsWrong)

/-- 'laws.FnDeadArmsCover': WHATEVER THE INPUT: true; the input reads as it did. -/
def fnDeadArmsCoverSpec : ChangeSpec := { name := "fnDeadArmsCover", fn := fun _ => fun
  | [d] => { results := [.lit (.bool true)], args := [d] }
  | _ => none }
def fnDeadArmsCoverRow : OpenClaim := { program := "ytkholjcmaebaaaa", sum := "b9d70c91720d45cf3387974d8e01641f585ced5aeb90f1f58a9bad06fd6ae7c4", func := "loop.example/namedflags/laws.FnDeadArmsCover", spec := "fnDeadArmsCover", apart := false }
def FnDeadArmsCoverSaid : Prop := fnDeadArmsCoverRow.holds Try.pinned (OpenSpec.ofChange fnDeadArmsCoverSpec)

/-- ITS FALSE NEIGHBOUR: 'it returns false'. Refute it at one input. -/
def fnDeadArmsCoverWrong : ChangeSpec := { name := "fnDeadArmsCover", fn := fun _ => fun
  | [d] => { results := [.lit (.bool false)], args := [d] }
  | _ => none }
def FnDeadArmsCoverWrongFalsely : Prop := fnDeadArmsCoverRow.holds Try.pinned (OpenSpec.ofChange fnDeadArmsCoverWrong)

/-- 'laws.FnApplyChangesOne': WHATEVER THE INPUT: true; the input reads as it did. -/
def fnApplyChangesOneSpec : ChangeSpec := { name := "fnApplyChangesOne", fn := fun _ => fun
  | [d] => { results := [.lit (.bool true)], args := [d] }
  | _ => none }
def fnApplyChangesOneRow : OpenClaim := { program := "ytkholjcmaebaaaa", sum := "b9d70c91720d45cf3387974d8e01641f585ced5aeb90f1f58a9bad06fd6ae7c4", func := "loop.example/namedflags/laws.FnApplyChangesOne", spec := "fnApplyChangesOne", unfollowed := true, recurses := true, apart := false }
def FnApplyChangesOneSaid : Prop := fnApplyChangesOneRow.holds Try.pinned (OpenSpec.ofChange fnApplyChangesOneSpec)

/-- ITS FALSE NEIGHBOUR: 'it returns false'. Refute it at one input. -/
def fnApplyChangesOneWrong : ChangeSpec := { name := "fnApplyChangesOne", fn := fun _ => fun
  | [d] => { results := [.lit (.bool false)], args := [d] }
  | _ => none }
def FnApplyChangesOneWrongFalsely : Prop := fnApplyChangesOneRow.holds Try.pinned (OpenSpec.ofChange fnApplyChangesOneWrong)

/-- 'laws.FnApplyChanges': WHATEVER THE INPUT: true; the input reads as it did. -/
def fnApplyChangesSpec : ChangeSpec := { name := "fnApplyChanges", fn := fun _ => fun
  | [d] => { results := [.lit (.bool true)], args := [d] }
  | _ => none }
def fnApplyChangesRow : OpenClaim := { program := "ytkholjcmaebaaaa", sum := "b9d70c91720d45cf3387974d8e01641f585ced5aeb90f1f58a9bad06fd6ae7c4", func := "loop.example/namedflags/laws.FnApplyChanges", spec := "fnApplyChanges", unfollowed := true, recurses := true, apart := false }
def FnApplyChangesSaid : Prop := fnApplyChangesRow.holds Try.pinned (OpenSpec.ofChange fnApplyChangesSpec)

/-- ITS FALSE NEIGHBOUR: 'it returns false'. Refute it at one input. -/
def fnApplyChangesWrong : ChangeSpec := { name := "fnApplyChanges", fn := fun _ => fun
  | [d] => { results := [.lit (.bool false)], args := [d] }
  | _ => none }
def FnApplyChangesWrongFalsely : Prop := fnApplyChangesRow.holds Try.pinned (OpenSpec.ofChange fnApplyChangesWrong)

/-- 'laws.FnTurnChanges': WHATEVER THE INPUT: true; the input reads as it did. -/
def fnTurnChangesSpec : ChangeSpec := { name := "fnTurnChanges", fn := fun _ => fun
  | [d] => { results := [.lit (.bool true)], args := [d] }
  | _ => none }
def fnTurnChangesRow : OpenClaim := { program := "ytkholjcmaebaaaa", sum := "b9d70c91720d45cf3387974d8e01641f585ced5aeb90f1f58a9bad06fd6ae7c4", func := "loop.example/namedflags/laws.FnTurnChanges", spec := "fnTurnChanges", unfollowed := true, recurses := true, apart := false }
def FnTurnChangesSaid : Prop := fnTurnChangesRow.holds Try.pinned (OpenSpec.ofChange fnTurnChangesSpec)

/-- ITS FALSE NEIGHBOUR: 'it returns false'. Refute it at one input. -/
def fnTurnChangesWrong : ChangeSpec := { name := "fnTurnChanges", fn := fun _ => fun
  | [d] => { results := [.lit (.bool false)], args := [d] }
  | _ => none }
def FnTurnChangesWrongFalsely : Prop := fnTurnChangesRow.holds Try.pinned (OpenSpec.ofChange fnTurnChangesWrong)

/-- 'laws.FnExactTurnChanges': WHATEVER THE INPUT: true; the input reads as it did. -/
def fnExactTurnChangesSpec : ChangeSpec := { name := "fnExactTurnChanges", fn := fun _ => fun
  | [d] => { results := [.lit (.bool true)], args := [d] }
  | _ => none }
def fnExactTurnChangesRow : OpenClaim := { program := "ytkholjcmaebaaaa", sum := "b9d70c91720d45cf3387974d8e01641f585ced5aeb90f1f58a9bad06fd6ae7c4", func := "loop.example/namedflags/laws.FnExactTurnChanges", spec := "fnExactTurnChanges", unfollowed := true, recurses := true, apart := false }
def FnExactTurnChangesSaid : Prop := fnExactTurnChangesRow.holds Try.pinned (OpenSpec.ofChange fnExactTurnChangesSpec)

/-- ITS FALSE NEIGHBOUR: 'it returns false'. Refute it at one input. -/
def fnExactTurnChangesWrong : ChangeSpec := { name := "fnExactTurnChanges", fn := fun _ => fun
  | [d] => { results := [.lit (.bool false)], args := [d] }
  | _ => none }
def FnExactTurnChangesWrongFalsely : Prop := fnExactTurnChangesRow.holds Try.pinned (OpenSpec.ofChange fnExactTurnChangesWrong)

/-- 'laws.FnGreatestArms': WHATEVER THE INPUT: true; the input reads as it did. -/
def fnGreatestArmsSpec : ChangeSpec := { name := "fnGreatestArms", fn := fun _ => fun
  | [d] => { results := [.lit (.bool true)], args := [d] }
  | _ => none }
def fnGreatestArmsRow : OpenClaim := { program := "ytkholjcmaebaaaa", sum := "b9d70c91720d45cf3387974d8e01641f585ced5aeb90f1f58a9bad06fd6ae7c4", func := "loop.example/namedflags/laws.FnGreatestArms", spec := "fnGreatestArms", unfollowed := true, recurses := true, apart := false }
def FnGreatestArmsSaid : Prop := fnGreatestArmsRow.holds Try.pinned (OpenSpec.ofChange fnGreatestArmsSpec)

/-- ITS FALSE NEIGHBOUR: 'it returns false'. Refute it at one input. -/
def fnGreatestArmsWrong : ChangeSpec := { name := "fnGreatestArms", fn := fun _ => fun
  | [d] => { results := [.lit (.bool false)], args := [d] }
  | _ => none }
def FnGreatestArmsWrongFalsely : Prop := fnGreatestArmsRow.holds Try.pinned (OpenSpec.ofChange fnGreatestArmsWrong)

/-- 'laws.FnExactGreatestArms': WHATEVER THE INPUT: true; the input reads as it did. -/
def fnExactGreatestArmsSpec : ChangeSpec := { name := "fnExactGreatestArms", fn := fun _ => fun
  | [d1, d2] => { results := [.lit (.bool true)], args := [d1, d2] }
  | _ => none }
def fnExactGreatestArmsRow : OpenClaim := { program := "ytkholjcmaebaaaa", sum := "b9d70c91720d45cf3387974d8e01641f585ced5aeb90f1f58a9bad06fd6ae7c4", func := "loop.example/namedflags/laws.FnExactGreatestArms", spec := "fnExactGreatestArms", unfollowed := true, recurses := true, apart := false }
def FnExactGreatestArmsSaid : Prop := fnExactGreatestArmsRow.holds Try.pinned (OpenSpec.ofChange fnExactGreatestArmsSpec)

/-- ITS FALSE NEIGHBOUR: 'it returns false'. Refute it at one input. -/
def fnExactGreatestArmsWrong : ChangeSpec := { name := "fnExactGreatestArms", fn := fun _ => fun
  | [d1, d2] => { results := [.lit (.bool false)], args := [d1, d2] }
  | _ => none }
def FnExactGreatestArmsWrongFalsely : Prop := fnExactGreatestArmsRow.holds Try.pinned (OpenSpec.ofChange fnExactGreatestArmsWrong)

/- THE SECOND FORM. 'bulk': how many values and letters a reading holds, each counted each time it is reached (what is shared counts as often as it is met; a slice's spare places count too). A statement '..UptoSaid' is the law's where the arguments, and the package variables that the reading takes, are together of bulk at most 1048576: NARROWER than '..Said'. Prove '..Said' where nothing that the law and all that it calls make is longer than what came in: it says more and counts as full. Else prove '..UptoSaid'. A law counts once. -/
mutual
def uptoBulk {H : Type} : DataW H → Nat
  | .lit (.string bytes) => bytes.length + 1
  | .lit _ => 1
  | .nil => 1
  | .ptr d => uptoBulk d + 1
  | .slice elems spare => uptoBulkAll elems + uptoBulkAll spare + 1
  | .agg parts => uptoBulkAll parts + 1
  | .iface _ d => uptoBulk d + 1
  | .map entries => uptoBulkEntries entries + 1
  | .held _ => 1
def uptoBulkAll {H : Type} : List (DataW H) → Nat
  | [] => 0
  | d :: r => uptoBulk d + uptoBulkAll r
def uptoBulkEntries {H : Type} : List (Lit × DataW H) → Nat
  | [] => 0
  | x :: r => uptoBulkEntry x + uptoBulkEntries r
def uptoBulkEntry {H : Type} : Lit × DataW H → Nat
  | (.string bytes, d) => bytes.length + uptoBulk d + 1
  | (_, d) => uptoBulk d + 1
 end
def uptoSmall : (H : Type) → List (DataW H) → Bool := fun _ ds => decide (uptoBulkAll ds ≤ 1048576)
def OpenSpec.upto (s : _root_.Go.ChangeSpec) : _root_.Go.OpenSpec := { _root_.Go.OpenSpec.ofChange s with cond := some uptoSmall }

/-- 'laws.FnConvertValueOr', WHERE WHAT IT READS IS OF BULK AT MOST 1048576: true; the input reads as it did. -/
def fnConvertValueOrUptoRow : OpenClaim := { program := "ytkholjcmaebaaaa", sum := "b9d70c91720d45cf3387974d8e01641f585ced5aeb90f1f58a9bad06fd6ae7c4", func := "loop.example/namedflags/laws.FnConvertValueOr", spec := "fnConvertValueOr", unfollowed := true, recurses := true, apart := false, narrowed := true }
def FnConvertValueOrUptoSaid : Prop := fnConvertValueOrUptoRow.holds Try.pinned (OpenSpec.upto fnConvertValueOrSpec)

/-- 'laws.FnFirstArm', WHERE WHAT IT READS IS OF BULK AT MOST 1048576: true; the input reads as it did. -/
def fnFirstArmUptoRow : OpenClaim := { program := "ytkholjcmaebaaaa", sum := "b9d70c91720d45cf3387974d8e01641f585ced5aeb90f1f58a9bad06fd6ae7c4", func := "loop.example/namedflags/laws.FnFirstArm", spec := "fnFirstArm", unfollowed := true, recurses := true, apart := false, narrowed := true }
def FnFirstArmUptoSaid : Prop := fnFirstArmUptoRow.holds Try.pinned (OpenSpec.upto fnFirstArmSpec)

/-- 'laws.FnFirstMissed', WHERE WHAT IT READS IS OF BULK AT MOST 1048576: true; the input reads as it did. -/
def fnFirstMissedUptoRow : OpenClaim := { program := "ytkholjcmaebaaaa", sum := "b9d70c91720d45cf3387974d8e01641f585ced5aeb90f1f58a9bad06fd6ae7c4", func := "loop.example/namedflags/laws.FnFirstMissed", spec := "fnFirstMissed", unfollowed := true, recurses := true, apart := false, narrowed := true }
def FnFirstMissedUptoSaid : Prop := fnFirstMissedUptoRow.holds Try.pinned (OpenSpec.upto fnFirstMissedSpec)

/-- 'laws.FnFirstMissedAll', WHERE WHAT IT READS IS OF BULK AT MOST 1048576: true; the input reads as it did. -/
def fnFirstMissedAllUptoRow : OpenClaim := { program := "ytkholjcmaebaaaa", sum := "b9d70c91720d45cf3387974d8e01641f585ced5aeb90f1f58a9bad06fd6ae7c4", func := "loop.example/namedflags/laws.FnFirstMissedAll", spec := "fnFirstMissedAll", apart := false, narrowed := true }
def FnFirstMissedAllUptoSaid : Prop := fnFirstMissedAllUptoRow.holds Try.pinned (OpenSpec.upto fnFirstMissedAllSpec)

/-- 'laws.FnDeadArms', WHERE WHAT IT READS IS OF BULK AT MOST 1048576: true; the input reads as it did. -/
def fnDeadArmsUptoRow : OpenClaim := { program := "ytkholjcmaebaaaa", sum := "b9d70c91720d45cf3387974d8e01641f585ced5aeb90f1f58a9bad06fd6ae7c4", func := "loop.example/namedflags/laws.FnDeadArms", spec := "fnDeadArms", apart := false, narrowed := true }
def FnDeadArmsUptoSaid : Prop := fnDeadArmsUptoRow.holds Try.pinned (OpenSpec.upto fnDeadArmsSpec)

/-- 'laws.FnDeadArmsCover', WHERE WHAT IT READS IS OF BULK AT MOST 1048576: true; the input reads as it did. -/
def fnDeadArmsCoverUptoRow : OpenClaim := { program := "ytkholjcmaebaaaa", sum := "b9d70c91720d45cf3387974d8e01641f585ced5aeb90f1f58a9bad06fd6ae7c4", func := "loop.example/namedflags/laws.FnDeadArmsCover", spec := "fnDeadArmsCover", apart := false, narrowed := true }
def FnDeadArmsCoverUptoSaid : Prop := fnDeadArmsCoverUptoRow.holds Try.pinned (OpenSpec.upto fnDeadArmsCoverSpec)

/-- 'laws.FnApplyChangesOne', WHERE WHAT IT READS IS OF BULK AT MOST 1048576: true; the input reads as it did. -/
def fnApplyChangesOneUptoRow : OpenClaim := { program := "ytkholjcmaebaaaa", sum := "b9d70c91720d45cf3387974d8e01641f585ced5aeb90f1f58a9bad06fd6ae7c4", func := "loop.example/namedflags/laws.FnApplyChangesOne", spec := "fnApplyChangesOne", unfollowed := true, recurses := true, apart := false, narrowed := true }
def FnApplyChangesOneUptoSaid : Prop := fnApplyChangesOneUptoRow.holds Try.pinned (OpenSpec.upto fnApplyChangesOneSpec)

/-- 'laws.FnApplyChanges', WHERE WHAT IT READS IS OF BULK AT MOST 1048576: true; the input reads as it did. -/
def fnApplyChangesUptoRow : OpenClaim := { program := "ytkholjcmaebaaaa", sum := "b9d70c91720d45cf3387974d8e01641f585ced5aeb90f1f58a9bad06fd6ae7c4", func := "loop.example/namedflags/laws.FnApplyChanges", spec := "fnApplyChanges", unfollowed := true, recurses := true, apart := false, narrowed := true }
def FnApplyChangesUptoSaid : Prop := fnApplyChangesUptoRow.holds Try.pinned (OpenSpec.upto fnApplyChangesSpec)

/-- 'laws.FnTurnChanges', WHERE WHAT IT READS IS OF BULK AT MOST 1048576: true; the input reads as it did. -/
def fnTurnChangesUptoRow : OpenClaim := { program := "ytkholjcmaebaaaa", sum := "b9d70c91720d45cf3387974d8e01641f585ced5aeb90f1f58a9bad06fd6ae7c4", func := "loop.example/namedflags/laws.FnTurnChanges", spec := "fnTurnChanges", unfollowed := true, recurses := true, apart := false, narrowed := true }
def FnTurnChangesUptoSaid : Prop := fnTurnChangesUptoRow.holds Try.pinned (OpenSpec.upto fnTurnChangesSpec)

/-- 'laws.FnExactTurnChanges', WHERE WHAT IT READS IS OF BULK AT MOST 1048576: true; the input reads as it did. -/
def fnExactTurnChangesUptoRow : OpenClaim := { program := "ytkholjcmaebaaaa", sum := "b9d70c91720d45cf3387974d8e01641f585ced5aeb90f1f58a9bad06fd6ae7c4", func := "loop.example/namedflags/laws.FnExactTurnChanges", spec := "fnExactTurnChanges", unfollowed := true, recurses := true, apart := false, narrowed := true }
def FnExactTurnChangesUptoSaid : Prop := fnExactTurnChangesUptoRow.holds Try.pinned (OpenSpec.upto fnExactTurnChangesSpec)

/-- 'laws.FnGreatestArms', WHERE WHAT IT READS IS OF BULK AT MOST 1048576: true; the input reads as it did. -/
def fnGreatestArmsUptoRow : OpenClaim := { program := "ytkholjcmaebaaaa", sum := "b9d70c91720d45cf3387974d8e01641f585ced5aeb90f1f58a9bad06fd6ae7c4", func := "loop.example/namedflags/laws.FnGreatestArms", spec := "fnGreatestArms", unfollowed := true, recurses := true, apart := false, narrowed := true }
def FnGreatestArmsUptoSaid : Prop := fnGreatestArmsUptoRow.holds Try.pinned (OpenSpec.upto fnGreatestArmsSpec)

/-- 'laws.FnExactGreatestArms', WHERE WHAT IT READS IS OF BULK AT MOST 1048576: true; the input reads as it did. -/
def fnExactGreatestArmsUptoRow : OpenClaim := { program := "ytkholjcmaebaaaa", sum := "b9d70c91720d45cf3387974d8e01641f585ced5aeb90f1f58a9bad06fd6ae7c4", func := "loop.example/namedflags/laws.FnExactGreatestArms", spec := "fnExactGreatestArms", unfollowed := true, recurses := true, apart := false, narrowed := true }
def FnExactGreatestArmsUptoSaid : Prop := fnExactGreatestArmsUptoRow.holds Try.pinned (OpenSpec.upto fnExactGreatestArmsSpec)

end Rows
end Go.Proofs.Ytkholjcmaebaaaa
