import Derived.Test.YteaiaglangmhbaaDoorEnuP
import Derived.Test.YteaiaglangmhbaaDoorBaseE
namespace Go.Proofs.YteaiaglangmhbaaDoor
open Go.RowKit
set_option linter.unusedVariables false
set_option maxRecDepth 100000

/-! ### bits.TrailingZeros at a power of 2 -/
/-- The place in the table, as the program reckons it. -/
def tzE (x : Int) : Int := IntKind.u64.wrap (bits .and .u64 x (IntKind.u64.wrap (-x)) * 285870213051353865) / 288230376151711744
/-- The numbers of the table. -/
def tzTab : List Int := match (Rows.laid_math_bits_deBruijn64tab (H := Unit)) with
  | .agg xs => xs.map fun d => match d with | .lit (.int _ z) => z | _ => 0
  | _ => []
theorem tz_all : ∀ i : Fin 12, 0 ≤ tzE ((2 ^ i.val : Nat) : Int) ∧ tzE ((2 ^ i.val : Nat) : Int) < 64 ∧ tzTab.getD (tzE ((2 ^ i.val : Nat) : Int)).toNat 0 = (i.val : Int) := by decide +kernel
/-- The table lies in the block of the variable. -/
def TabAt (w : World) : Prop := ∀ j, j < 64 → w.cell? ⟨1, j, none⟩ = some (.int .u8 (tzTab.getD j 0))
theorem TabAt.below {w w' : World} {B : Nat} (h : TabAt w) (hb : Below B w w') (hB : 1 < B) : TabAt w' := fun j hj => (hb.cell (p := ⟨1, j, none⟩) hB).trans (h j hj)
set_option maxHeartbeats 4000000 in
theorem tz64_v (i : Nat) (w : World) (hi : i < 12) (hT : TabAt w) :
    Calls Tryd.prog 65 #[.int .u64 ((2 ^ i : Nat) : Int)] w fun e w' => e = .returned (.int .i64 i) ∧ w = w' := by
  obtain ⟨h1, h2, h3⟩ := tz_all ⟨i, hi⟩
  have hp : 0 < 2 ^ i := Nat.two_pow_pos i
  obtain ⟨x, hx⟩ : ∃ x : Int, ((2 ^ i : Nat) : Int) = x := ⟨_, rfl⟩
  have hx0 : (x == 0) = false := by rw [beq_eq_false_iff_ne]; omega
  rw [hx] at h1 h2 h3
  obtain ⟨j, hj⟩ : ∃ j : Nat, tzE x = j := ⟨(tzE x).toNat, by omega⟩
  rw [hj, Int.toNat_natCast] at h3
  have hj64 : j < 64 := by omega
  have hc := hT j hj64
  rw [h3] at hc
  have hE : IntKind.u64.wrap (bits .and .u64 x (IntKind.u64.wrap (-x)) * 285870213051353865) / 288230376151711744 = (j : Int) := hj
  have hj0 : (0 : Int) ≤ (j : Int) := by omega
  have hj1 : (j : Int) < 64 := by omega
  have hw8 : IntKind.i64.wrap (i : Int) = (i : Int) := by rw [IntKind.wrap_i64]; omega
  rw [hx]
  clear h1 h2 h3 hT hx hj
  go_enter Tryd.func65, Tryd.ntmps65
  go_wp2
  go_ret
  exact ⟨rfl, rfl⟩
set_option maxHeartbeats 400000 in
theorem tz_v (i : Nat) (w : World) (hi : i < 12) (hT : TabAt w) :
    Calls Tryd.prog 35 #[.int .u64 ((2 ^ i : Nat) : Int)] w fun e w' => e = .returned (.int .i64 i) ∧ w = w' := by
  obtain ⟨x, hx⟩ : ∃ x : Int, ((2 ^ i : Nat) : Int) = x := ⟨_, rfl⟩
  have HC := Lib.hid (tz64_v i w hi hT)
  rw [hx] at HC ⊢
  clear hT hx
  go_enter Tryd.func35, Tryd.ntmps35
  go_wp2_with (go_at_call 65; refine HC.out.mono ?_; rintro e w' ⟨rfl, rfl⟩)
  go_ret
  exact ⟨rfl, rfl⟩
end Go.Proofs.YteaiaglangmhbaaDoor
