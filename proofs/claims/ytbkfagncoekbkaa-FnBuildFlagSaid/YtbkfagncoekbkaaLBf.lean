import Derived.Test.YtbkfagncoekbkaaBldF
import Derived.Test.YtbkfagncoekbkaaLSg
namespace Go.Proofs.Ytbkfagncoekbkaa
open Go.RowKit Go.Maps
set_option linter.unusedVariables false
set_option maxRecDepth 100000

/-! ### what is so of a class of flags that is built -/
theorem bldF_pre (ts : List It) (k n : Nat) (hkn : k ≤ n) (hn : n ≤ ts.length) : (bldF ts n).take k = bldF ts k := by
  induction n with
  | zero => obtain rfl : k = 0 := by omega
            rfl
  | succ n ih =>
    by_cases e : k = n + 1
    · subst e; rw [List.take_of_length_le]; rw [bldF_len ts _ hn]; exact Nat.le_refl _
    · rw [bldF_succ ts n (by omega), List.take_append_of_le_length (by rw [bldF_len ts n (by omega)]; omega)]
      exact ih (by omega) (by omega)
theorem bldF_at (ts : List It) (k : Nat) (hk : k < ts.length) (h : k < (bldF ts ts.length).length) : (bldF ts ts.length)[k] = bldFD (bldF ts k) ts[k] := by
  have h1 := bldF_pre ts (k + 1) ts.length (by omega) (Nat.le_refl _)
  have hl := bldF_len ts k (by omega)
  have h2 : ((bldF ts ts.length).take (k + 1))[k]? = (bldF ts (k + 1))[k]? := by rw [h1]
  rw [List.getElem?_take_of_lt (by omega), List.getElem?_eq_getElem h, bldF_succ ts k hk, List.getElem?_append_right (by omega), hl] at h2
  simpa using h2
structure FFit (ts : List It) (b : Int) (ms : List D) : Prop where
  len : ms.length = ts.length
  name : ∀ k (h : k < ms.length) (h' : k < ts.length), ms[k].name = ts[k].name
  val : ∀ k (h : k < ms.length) (h' : k < ts.length), ts[k].auto = false → ms[k].val = ts[k].val
  up : ∀ k (h : k < ms.length) (h' : k < ts.length), ts[k].auto = true → ∀ i (hi : i < k), ms[i].val < ms[k].val
  one : ∀ k (h : k < ms.length) (h' : k < ts.length), ts[k].auto = true → ∃ x : Nat, ms[k].val = (x : Int) ∧ mCount ms 3 (x : Int) = 1
  ve : vFlag ms b = true
theorem ffit {ts : List It} {b : Int} (hb : builtF ts b = true) : FFit ts b (mBldF ts b) ∧ mBldB ts b = b := by
  have e : mBldF ts b = bldF ts ts.length := by unfold mBldF; rw [hb, if_pos rfl]
  have e2 : mBldB ts b = b := by unfold mBldB; rw [hb, if_pos rfl]
  unfold builtF at hb
  rw [Bool.and_eq_true] at hb
  obtain ⟨hvi, hv⟩ := hb
  have hl := bldF_len ts ts.length (Nat.le_refl _)
  rw [e]
  refine ⟨⟨hl, fun k h h' => by rw [bldF_at ts k h' h]; rfl, fun k h h' ha => by rw [bldF_at ts k h' h]; unfold bldFD; simp [ha], fun k h h' ha i hi => ?_, fun k h h' ha => ?_, hv⟩, e2⟩
  · have hpre := bldF_pre ts k ts.length (by omega) (Nat.le_refl _)
    have hlk := bldF_len ts k (by omega)
    have hmem : (bldF ts ts.length)[i] ∈ bldF ts k := by
      rw [← hpre]
      have hit : i < ((bldF ts ts.length).take k).length := by rw [hpre, hlk]; exact hi
      have := List.getElem_mem hit
      rwa [List.getElem_take] at this
    have h0 := (vFlag_in hv _ (List.getElem_mem (show i < (bldF ts ts.length).length by omega))).1
    have hp := part_one hmem
    have hle := nl_add_and (bldF ts ts.length)[i].val.toNat (mMask (bldF ts k))
    rw [hp] at hle
    have hle2 := and_le (mMask (bldF ts k)) (bldF ts ts.length)[i].val.toNat
    rw [Nat.and_comm] at hle2
    have hlt := blen_lt (mMask (bldF ts k))
    have e3 : (bldF ts ts.length)[k].val = ((2 ^ blen (mMask (bldF ts k)) : Nat) : Int) := by rw [bldF_at ts k h' h]; unfold bldFD mNb; simp [ha]
    rw [e3]
    omega
  · have e3 : (bldF ts ts.length)[k].val = ((2 ^ blen (mMask (bldF ts k)) : Nat) : Int) := by rw [bldF_at ts k h' h]; unfold bldFD mNb; simp [ha]
    refine ⟨_, e3, ?_⟩
    have h3 := count_one (vFlag_3 hv) (List.getElem_mem h)
    rw [e3, Int.toNat_natCast, popc_pow] at h3
    exact h3
end Go.Proofs.Ytbkfagncoekbkaa
