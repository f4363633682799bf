import Derived.Test.YtbkfagncoekbkaaBaseA
import Derived.Test.YtbkfagncoekbkaaFlagP
import Derived.Lib.Strings
import Derived.Lib.Slices
import Derived.Lib.Small
import Derived.Lib.Walk
namespace Go.Proofs.Ytbkfagncoekbkaa
open Go.RowKit Go.Maps
set_option linter.unusedVariables false
set_option maxRecDepth 100000

/-! ### bits.Len: as many bits as a number needs -/
theorem tab_size : (Lib.len8tab.size : Int) = 256 := by
  have : Lib.len8tab.size = 256 := by decide
  omega
theorem tab_get (y : Int) (h : y.toNat < Lib.len8tab.size) : ((Lib.len8tab[y.toNat]'h).toNat : Int) = Lib.len8 y := by
  unfold Lib.len8
  rw [getElem?_pos Lib.len8tab y.toNat h]
  rfl
theorem len_up {x y : Int} {v : Nat} (k : Nat) (h0 : 0 ≤ x) (hx : x ≤ 18446744073709551615) (hy0 : 0 ≤ y) (hy1 : y ≤ 255) (hk : k = 0 ∨ (2 ^ k ≤ x.toNat ∧ k ≤ 56)) (hy : y.toNat = x.toNat / 2 ^ k) (hv : blen x.toNat = v) : wrap64 ((k : Int) + wrap64 (Lib.len8 y)) = (v : Int) ∧ (k = 0 → wrap64 (wrap64 (Lib.len8 y)) = (v : Int)) ∧ wrap64 (Lib.len8 y) = Lib.len8 y ∧ 0 ≤ Lib.len8 y ∧ Lib.len8 y ≤ 8 := by
  have hl := Lib.bitLen_le8' y hy0 hy1
  rw [Lib.len8_of y hy0 hy1]
  have key : (k : Int) + ((Lib.bitLen y.toNat : Nat) : Int) = (v : Int) := by
    rw [hy, ← hv, ← bitLen_blen _ (by omega)]
    rcases hk with rfl | ⟨hk, _⟩
    · simp
    · rw [Lib.bitLen_shift k x.toNat hk (by omega)]; push_cast; rfl
  have hk2 : k ≤ 56 := by omega
  generalize Lib.bitLen y.toNat = q at *
  unfold wrap64
  refine ⟨by omega, fun h => ?_, by omega, by omega, by omega⟩
  omega
set_option maxHeartbeats 16000000 in
theorem len64_v (x : Int) (w : World) (h0 : 0 ≤ x) (h1 : x ≤ 18446744073709551615) {v : Nat} (hv : blen x.toNat = v) :
    Calls Try.prog 171 #[.int .u64 x] w fun e w' => e = .returned (.int .i64 v) ∧ w = w' := by
  have HV := Lib.hid hv
  clear hv
  go_enter Try.func171, Try.ntmps171
  go_wp2
  all_goals first
    | (go_ret; refine ⟨congrArg Ending.returned (congrArg (Value.int IntKind.i64) ?_), rfl⟩)
    | (exfalso; have hs := tab_size; omega)
  all_goals have HS := tab_size
  · have k1 := len_up 56 h0 h1 (y := x / 4294967296 / 65536 / 256) (by omega) (by omega) (.inr ⟨by omega, by omega⟩) (by omega) HV.out
    rw [tab_get]; exact k1.1
  · have k1 := len_up 48 h0 h1 (y := x / 4294967296 / 65536) (by omega) (by omega) (.inr ⟨by omega, by omega⟩) (by omega) HV.out
    rw [tab_get]; exact k1.1
  · have k1 := len_up 40 h0 h1 (y := x / 4294967296 / 256) (by omega) (by omega) (.inr ⟨by omega, by omega⟩) (by omega) HV.out
    rw [tab_get]; exact k1.1
  · have k1 := len_up 32 h0 h1 (y := x / 4294967296) (by omega) (by omega) (.inr ⟨by omega, by omega⟩) (by omega) HV.out
    rw [tab_get]; exact k1.1
  · have k1 := len_up 24 h0 h1 (y := x / 65536 / 256) (by omega) (by omega) (.inr ⟨by omega, by omega⟩) (by omega) HV.out
    rw [tab_get]; exact k1.1
  · have k1 := len_up 16 h0 h1 (y := x / 65536) (by omega) (by omega) (.inr ⟨by omega, by omega⟩) (by omega) HV.out
    rw [tab_get]; exact k1.1
  · have k1 := len_up 8 h0 h1 (y := x / 256) (by omega) (by omega) (.inr ⟨by omega, by omega⟩) (by omega) HV.out
    rw [tab_get]; exact k1.1
  · have k1 := len_up 0 h0 h1 (y := x) (by omega) (by omega) (.inl rfl) (by simp) HV.out
    rw [tab_get]; exact k1.2.1 rfl
set_option maxHeartbeats 400000 in
theorem len_v (x : Int) (w : World) (h0 : 0 ≤ x) (h1 : x ≤ 18446744073709551615) {v : Nat} (hv : blen x.toNat = v) :
    Calls Try.prog 165 #[.int .u64 x] w fun e w' => e = .returned (.int .i64 v) ∧ w = w' := by
  have HV := Lib.hid hv
  clear hv
  go_enter Try.func165, Try.ntmps165
  go_wp2_with (go_at_call 171; refine (len64_v x _ h0 h1 HV.out).mono ?_; rintro e w' ⟨rfl, rfl⟩)
  go_ret
  exact ⟨rfl, rfl⟩

/-! ### bits.OnesCount: how many bits a flag has -/
def st1 (x : Int) : Int := IntKind.u64.wrap (bits .and .u64 (x / 2) 6148914691236517205 + bits .and .u64 x 6148914691236517205)
def st2 (x : Int) : Int := IntKind.u64.wrap (bits .and .u64 (x / 4) 3689348814741910323 + bits .and .u64 x 3689348814741910323)
def st3 (x : Int) : Int := bits .and .u64 (IntKind.u64.wrap (x / 16 + x)) 1085102592571150095
def popF : Nat → Nat → Nat
  | 0, _ => 0
  | f + 1, n => n % 2 + popF f (n / 2)
theorem popF_eq (f n : Nat) (h : n < 2 ^ f) : popF f n = popc n := by
  induction f generalizing n with
  | zero => obtain rfl : n = 0 := by omega
            rw [popc_zero]; rfl
  | succ f ih =>
    show n % 2 + popF f (n / 2) = _
    rw [ih (n / 2) (by have := Nat.pow_succ 2 f; omega)]
    by_cases h0 : n = 0
    · subst h0; simp [popc_zero]
    · exact (popc_pos (by omega)).symm
def st4 (x : Int) : Int := IntKind.u64.wrap (x + x / 256)
def st5 (x : Int) : Int := IntKind.u64.wrap (x + x / 65536)
def st6 (x : Int) : Int := IntKind.u64.wrap (x + x / 4294967296)
def onesE (x : Int) : Int := bits .and .i64 (wrap64 (st6 (st5 (st4 (st3 (st2 (st1 x))))))) 127
theorem ones_all : ∀ x : Fin 4096, onesE (x.val : Int) = (popF 12 x.val : Int) := by decide +kernel
set_option maxHeartbeats 4000000 in
theorem ones64_v (x : Nat) (w : World) (h1 : x < 4096) {v : Nat} (hv : popc x = v) :
    Calls Try.prog 141 #[.int .u64 x] w fun e w' => e = .returned (.int .i64 v) ∧ w = w' := by
  have HV := Lib.hid hv
  have HK := Lib.hid (ones_all ⟨x, h1⟩)
  clear hv
  go_enter Try.func141, Try.ntmps141
  go_wp2
  go_ret
  refine ⟨congrArg Ending.returned (congrArg (Value.int IntKind.i64) ?_), rfl⟩
  have e := HK.out
  rw [popF_eq 12 x (by omega), HV.out] at e
  rw [← e]
  rfl
set_option maxHeartbeats 400000 in
theorem ones_v (x : Nat) (w : World) (h1 : x < 4096) {v : Nat} (hv : popc x = v) :
    Calls Try.prog 82 #[.int .u64 x] w fun e w' => e = .returned (.int .i64 v) ∧ w = w' := by
  have HV := Lib.hid hv
  clear hv
  go_enter Try.func82, Try.ntmps82
  go_wp2_with (go_at_call 141; refine (ones64_v x _ h1 HV.out).mono ?_; rintro e w' ⟨rfl, rfl⟩)
  go_ret
  exact ⟨rfl, rfl⟩
end Go.Proofs.Ytbkfagncoekbkaa
