import Derived.Deep.DeepCutAuto
import Derived.Test.YtkholjcmaebaaaaEdit2
import Derived.Test.YtkholjcmaebaaaaChgC
namespace Go.Proofs.Ytkholjcmaebaaaa
open Go.RowKit
set_option linter.unusedVariables false
set_option maxRecDepth 100000

/-! ### parts of a list of changes -/
theorem SK.drop_ {w : World} {B n c : Nat} {A : Option Addr} {ds : List Ch} (h : SK w B A n c ds) (k : Nat) (hk : k ≤ n) :
    SK w B (if c = k then A else A.map (·.add (k * 4))) (n - k) (c - k) (ds.drop k) := by
  have hl := h.len
  have hcp := h.cap
  refine ⟨?_, by simp; omega, by omega, by have := h.max; omega, fun d hd => h.ok d (List.mem_of_mem_drop hd)⟩
  by_cases hc : c = k
  · have : ds.drop k = [] := List.drop_eq_nil_of_le (by omega)
    rw [this]; exact .inl rfl
  · rw [if_neg hc]
    rcases h.rd with rfl | ⟨b, o, rfl, hb, hcell⟩
    · exact .inl (by simp)
    · refine .inr ⟨b, o + k * 4, ?_, hb, fun i x hi j v hj => ?_⟩
      · show some ((⟨b, o, none⟩ : Addr).add (k * 4)) = _
        congr 1
        unfold Addr.add; split <;> simp_all
      · rw [List.getElem?_drop] at hi
        have := hcell (k + i) x hi j v hj
        rw [show o + (k + i) * 4 + j = o + k * 4 + i * 4 + j by omega] at this
        exact this
/-- 's[k:]', without a word on where it lies. -/
theorem runK_from {w : World} {B n c : Nat} {A : Option Addr} {ds : List Ch} (h : SK w B A n c ds) (k : Nat) (hk : k ≤ n) :
    ∃ A2, (∀ W : World, (Instr.slice 54 (.slice A n c) (some (.int .i64 (k : Int))) none none).run Try.prog W = .ok (.slice A2 (n - k) (c - k)) W) ∧ SK w B A2 (n - k) (c - k) (ds.drop k) := by
  refine ⟨if c = k then A else A.map (·.add (k * 4)), fun W => ?_, h.drop_ k hk⟩
  have hi : (k : Int) ≤ (n : Int) := by omega
  have h0 : (0 : Int) ≤ (k : Int) := by omega
  rw [run_slice_l (P := Try.prog) W 54 A n c (by kernel_rfl) .i64 (k : Int) h0 hi]
  have hs : (sizeOf (Try.prog.elem 54)).run Try.prog W = .ok 4 W := by kernel_rfl
  rw [hs]
  simp [Result.andThen, sliced]
/-- 's[:k]'. -/
theorem runK_to (A : Option Addr) (n c k : Nat) (hk : k ≤ c) (W : World) :
    (Instr.slice 54 (.slice A n c) none (some (.int .i64 (k : Int))) none).run Try.prog W = .ok (.slice A k c) W := by
  have hi : (k : Int) ≤ (c : Int) := by omega
  have h0 : (0 : Int) ≤ (k : Int) := by omega
  rw [run_slice_h (P := Try.prog) W 54 A n c (by kernel_rfl) .i64 (k : Int) h0 hi]
  have hs : (sizeOf (Try.prog.elem 54)).run Try.prog W = .ok 4 W := by kernel_rfl
  rw [hs]
  cases A <;> simp [Result.andThen, sliced, Addr.add]
end Go.Proofs.Ytkholjcmaebaaaa
