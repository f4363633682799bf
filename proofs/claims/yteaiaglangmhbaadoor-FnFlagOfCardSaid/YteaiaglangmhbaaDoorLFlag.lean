import Derived.Test.YteaiaglangmhbaaDoorFlagU
import Derived.Test.YteaiaglangmhbaaDoorLEq
namespace Go.Proofs.YteaiaglangmhbaaDoor
open Go.RowKit
set_option linter.unusedVariables false
set_option maxRecDepth 100000

/-! ### what the laws of flags ask: plain facts -/
theorem nl_and_mask (a m : Nat) : nl (a &&& m) m = 0 := by
  rw [nl_zero]; intro i hi; rw [Nat.testBit_and] at hi; simp at hi; exact hi.2
theorem nl_nl_mask (m k : Nat) : nl (nl m k) m = 0 := by
  rw [nl_zero]; intro i hi; rw [tb_nl] at hi; simp at hi; exact hi.1
theorem mMade_self {ds : List D} {b x : Int} (hx : 0 ≤ x) (h : b = 3 ∨ nl x.toNat (mMask ds) = 0) : mMade ds b x = (x, 0) := by
  by_cases hz : nl x.toNat (mMask ds) = 0
  · exact mMade_in (by omega) hz
  · rcases h with rfl | h
    · rw [mMade_un (by omega) hz]; rfl
    · exact absurd h hz
theorem mValue_of {ds : List D} {b n : Int} (hv : vFlag ds b = true) (h0 : 0 ≤ n) (h1 : n ≤ 4095) : mValue ds b n = mMade ds b n := by
  have : inV n = true := by unfold inV; simp; omega
  unfold mValue; rw [hv, this]; rfl
/-- What is made is a value, and makes itself. -/
theorem made_again {ds : List D} {b n : Int} (h : (mValue ds b n).2 = 0) : vFlag ds b = true ∧ 0 ≤ (mValue ds b n).1 ∧ (mValue ds b n).1 ≤ 4095 ∧ mValue ds b (mValue ds b n).1 = ((mValue ds b n).1, 0) := by
  cases hv : vFlag ds b
  · unfold mValue at h; rw [hv] at h; simp at h
  cases hn : inV n
  · unfold mValue at h; rw [hv, hn] at h; simp at h
  have e : mValue ds b n = mMade ds b n := by unfold mValue; rw [hv, hn]; rfl
  rw [e] at h ⊢
  have hin := vFlag_in hv
  have hbd := vFlag_bound hv
  have hm := mMask_lt12 hin
  have hw := mWhole_lt (b := b) hin
  have hn2 : -4096 ≤ n ∧ n ≤ 4095 := by unfold inV at hn; simpa using hn
  have key : ∀ x : Nat, x < 4096 → (b = 3 ∨ nl x (mMask ds) = 0) → True ∧ 0 ≤ (x : Int) ∧ (x : Int) ≤ 4095 ∧ mValue ds b (x : Int) = ((x : Int), 0) := by
    intro x hx hc
    refine ⟨trivial, by omega, by omega, ?_⟩
    rw [mValue_of hv (by omega) (by omega)]
    exact mMade_self (by omega) (by simpa using hc)
  have fin : ∀ x : Nat, x < 4096 → (b = 3 ∨ nl x (mMask ds) = 0) → mMade ds b n = ((x : Int), 0) → true = true ∧ 0 ≤ (mMade ds b n).1 ∧ (mMade ds b n).1 ≤ 4095 ∧ mValue ds b (mMade ds b n).1 = ((mMade ds b n).1, 0) := by
    intro x hx hc he
    rw [he]
    exact ⟨rfl, (key x hx hc).2⟩
  by_cases hneg : n < 0
  · have hk : (-n - 1).toNat < 4096 := by omega
    refine fin _ (nl_lt hw) ?_ (mMade_neg hneg)
    by_cases h3 : b = 3
    · exact .inl h3
    · right
      unfold mWhole; rw [if_neg h3]; exact nl_nl_mask _ _
  · obtain ⟨m, rfl⟩ : ∃ m : Nat, n = m := ⟨n.toNat, by omega⟩
    by_cases hz : nl m (mMask ds) = 0
    · exact fin m (by omega) (.inr hz) (mMade_in hneg (by simpa using hz))
    · have hu := mMade_un (ds := ds) (b := b) hneg (by simpa using hz)
      rcases (show b = 0 ∨ b = 1 ∨ b = 2 ∨ b = 3 by omega) with rfl | rfl | rfl | rfl
      · rw [hu] at h; simp at h
      · exact fin (m &&& mMask ds) (and_lt (by omega)) (.inr (nl_and_mask _ _)) (by rw [hu]; simp)
      · rw [hu] at h; simp at h
      · exact fin m (by omega) (.inl rfl) (by rw [hu]; simp)
theorem made_isV {ds : List D} {b x : Int} (hv : vFlag ds b = true) (h : mValue ds b x = (x, 0)) : mIsV ds b x = true := by
  rw [isV_made ds b x hv, h]; simp

set_option maxHeartbeats 400000 in
theorem equalFlag_any (ds : List D) (b : Int) (A A2 : Option Addr) (c c2 n n2 : Nat) (w : World) (hr : SD w w.heap.size A n c ds) (hr2 : SD w w.heap.size A2 n2 c2 ds) :
    Calls Tryd.prog 25 #[.agg #[.slice A n c, .int .i64 b], .agg #[.slice A2 n2 c2, .int .i64 b]] w fun e w' => e = .returned (.bool true) ∧ Below w.heap.size w w' := by
  have HR := Lib.hid hr
  have HR2 := Lib.hid hr2
  clear hr hr2
  go_enter Tryd.func25, Tryd.ntmps25
  go_wp2_with (go_at_call 41; refine (equalDefs_any ds _ _ _ _ _ _ _ (((HR.out.alloc (Nat.le_refl _) _).alloc (by simp) _).call (by simp; omega)) (((HR2.out.alloc (Nat.le_refl _) _).alloc (by simp) _).call (by simp; omega))).mono ?_; rintro e w1 ⟨rfl, hb1⟩; have HB1 := Lib.hid hb1; obtain ⟨hc, hf⟩ := bcell hb1; have hz : w.heap.size + 1 + 1 ≤ w1.heap.size := (by have := hb1.size; simpa using this); clear hb1)
  go_ret
  exact ⟨rfl, (((Below.refl _ _).alloc (Nat.le_refl _) _).alloc (by simp) _).trans (HB1.out.mono (by simp; omega))⟩
end Go.Proofs.YteaiaglangmhbaaDoor
