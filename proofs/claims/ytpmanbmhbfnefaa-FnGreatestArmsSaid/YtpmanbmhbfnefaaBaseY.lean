import Derived.Test.YtpmanbmhbfnefaaBaseW
import Derived.Test.YtpmanbmhbfnefaaShwP
import Derived.Lib.AppendIntMem
import Derived.Below
import Derived.Test.YtpmanbmhbfnefaaBaseQ
import Derived.Test.YtpmanbmhbfnefaaBaseV
import Derived.Test.YtpmanbmhbfnefaaAlgJ
import Derived.Test.YtpmanbmhbfnefaaBaseE
import Derived.Test.YtpmanbmhbfnefaaBaseX
namespace Go.Proofs.Ytpmanbmhbfnefaa
open Go.RowKit
set_option linter.unusedVariables false
set_option maxRecDepth 100000

/-! ### strconv.Itoa -/
/-- The table of powers of ten. -/
def P10 (w : World) : Prop := Lib.TabIs Try.prog w "internal/strconv.uint64pow10" .u64 Lib.pow10Tab
end Go.Proofs.Ytpmanbmhbfnefaa

namespace Go.Proofs.Ytpmanbmhbfnefaa
open Go.RowKit
set_option linter.unusedVariables false
set_option linter.unusedSimpArgs false
set_option maxRecDepth 100000

/-! ### strings.Join -/
theorem exact_zero {ds : List D} {b : Int} (hv : vFlag ds b = true) : zeroT ds = if mExOk ds b 0 then mExN ds b 0 else ⟨#[48]⟩ := by
  rcases fidx_cases (isVal 0) ds with ⟨hx, _⟩ | ⟨k, hk, hx, _, _⟩
  · rw [zeroT_no (by omega), if_neg]
    unfold mExOk
    rw [hv, decide_eq_false (by omega)]
    simp
  · obtain ⟨h1, h2⟩ := mEx_yes hv hk hx
    rw [zeroT_yes hk hx, if_pos h1, h2]

/-! ### the program's shown -/
end Go.Proofs.Ytpmanbmhbfnefaa

namespace Go.Proofs.Ytpmanbmhbfnefaa
open Go.RowKit
set_option linter.unusedVariables false
set_option linter.unusedSimpArgs false
set_option maxRecDepth 100000

/-! ### what the library's readers look up -/
/-! ### strings.Split at one byte -/
/-! ### the program's reading of a number -/
theorem num_case (s : ByteArray) : (numOf s = none ∧ mRdN s = -1) ∨ (∃ v : Int, numOf s = some v ∧ v < 0 ∧ mRdN s = -1) ∨ (∃ v : Int, numOf s = some v ∧ 4095 < v ∧ ¬ (0 ≤ mRdN s ∧ mRdN s ≤ 4095)) ∨ (∃ n : Nat, numOf s = some (n : Int) ∧ n ≤ 4095 ∧ mRdN s = n) := by
  rcases mRdN_cases s with h | ⟨n, hn, _, h⟩
  · cases e : numOf s with
    | none => exact .inl ⟨rfl, h⟩
    | some v =>
      by_cases h1 : v < 0
      · exact .inr (.inl ⟨v, rfl, h1, h⟩)
      · by_cases h2 : 4095 < v
        · exact .inr (.inr (.inl ⟨v, rfl, h2, by omega⟩))
        · obtain ⟨n, rfl⟩ : ∃ n : Nat, v = n := ⟨v.toNat, by omega⟩
          have := (numOf_iff s n (by omega)).1 e
          omega
  · have e := (numOf_iff s n hn).2 h
    by_cases h2 : n ≤ 4095
    · exact .inr (.inr (.inr ⟨n, e, h2, h⟩))
    · exact .inr (.inr (.inl ⟨n, e, by omega, by omega⟩))
/-! ### the program's reading of a word -/

/-! ### the program's ReadValue -/
end Go.Proofs.Ytpmanbmhbfnefaa

namespace Go.Proofs.Ytpmanbmhbfnefaa
open Go.RowKit
set_option linter.unusedVariables false
set_option linter.unusedSimpArgs false
set_option maxRecDepth 100000

theorem mShow_no {ds : List D} {b x : Int} (h : mIsV ds b x = false) : mShowV ds b x = ⟨#[]⟩ := by unfold mShowV; rw [h]; rfl
theorem mShowSh_no {ds : List D} {b x : Int} (h : mIsV ds b x = false) : mShowSh ds b x = ⟨#[]⟩ := by unfold mShowSh; rw [h]; rfl
theorem sub_size {ds l : List D} {b : Int} (hv : vFlag ds b = true) (h : ∀ d ∈ l, d ∈ ds) : ∀ s ∈ l.map (·.name), s.size ≤ 8 := by
  intro s hs
  obtain ⟨d, hd, rfl⟩ := List.mem_map.1 hs
  have := flag_name6 hv (h d hd)
  omega
theorem mIn_in {ds : List D} {a : Nat} {d : D} (h : d ∈ mIn ds a) : d ∈ ds := (sgTo_in (List.mem_filter.1 h).1).1
theorem mShort_in {ds : List D} {a : Nat} {d : D} (h : d ∈ mShortL (mFit ds a)) : d ∈ ds := mFit_mem ((mShortL_mem _).2 d h)

/-! ### the program -/
/-! ### the model -/
end Go.Proofs.Ytpmanbmhbfnefaa

