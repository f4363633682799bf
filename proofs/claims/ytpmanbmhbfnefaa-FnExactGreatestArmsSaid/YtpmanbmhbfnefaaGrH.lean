import Derived.Test.YtpmanbmhbfnefaaGrT
import Derived.Test.YtpmanbmhbfnefaaArmsC
namespace Go.Proofs.Ytpmanbmhbfnefaa
open Go.RowKit Go.Maps
set_option linter.unusedVariables false
set_option maxRecDepth 100000

set_option maxHeartbeats 2000000 in
theorem heldArmS_any (k0 : Int) (base : Nat) (A : Option Addr) (c n : Nat) (w : World) (h : w.ownsRow base 72 2 (.slice A n c) n (marksA k0 n)) (h0 : 0 < k0) (h1 : k0 + 2 * n ≤ 7000000) :
    Calls Try.prog 33 #[.slice A n c, .int .i64 k0] w (HeldP (k0 + 2 * n) w) := by
  have HO := Lib.hid h
  clear h
  go_enter Try.func33, Try.ntmps33
  go_wp2
  go_loop [1, 5] (fun kk i => ∃ (k : Nat), k ≤ n ∧ i = .int .i64 k ∧ kk = .int .i64 (k0 + 2 * k)) (fun _ i => n - (intOf i).toNat)
  case atStart => exact ⟨0, Nat.zero_le _, rfl, by simp⟩
  case round =>
    obtain ⟨k, hk, rfl, rfl⟩ := hrel
    by_cases hlt : k < n
    · obtain ⟨g, rfl, hbg, hgl⟩ := own_addr HO.out (by omega)
      have hx1 : w.cell? ⟨g, k * 2, none⟩ = some (.int .i64 (k0 + 2 * k)) := by rw [HO.out.cellAt (k * 2) (by omega)]; exact (marksA_get k0 n k hlt).1
      have hy1 : w.cell? ⟨g, k * 2 + 1, none⟩ = some (.int .i64 (k0 + 2 * k + 1)) := by rw [HO.out.cellAt (k * 2 + 1) (by omega)]; exact (marksA_get k0 n k hlt).2
      have hi1 : (k : Int) < (n : Int) := by omega
      go_wp2
      go_round
      case rel => exact ⟨k + 1, by omega, by go_num, by first | go_num | (congr 1; push_cast; omega)⟩
      case measure => simp [intOf]; omega
    · obtain rfl : k = n := by omega
      go_wp2
      go_ret
      exact ⟨rfl, Below.refl _ _⟩
theorem mGreat_sub {ds : List D} {b : Int} {list : List Int} : ∀ a ∈ mGreat ds b list, mGrOk ds b list = true ∧ a ∈ mArmsIn (mMask ds) list := by
  intro a ha
  rw [mGreat_V] at ha
  cases h : mGrOk ds b list
  · rw [h] at ha; exact absurd ha (by simp)
  · rw [h, if_pos rfl] at ha
    exact ⟨rfl, (List.mem_filter.1 ha).1⟩
theorem mGrOk_flag {ds : List D} {b : Int} {list : List Int} (h : mGrOk ds b list = true) : vFlag ds b = true := by
  rw [mGrOk_is] at h
  simp only [Bool.and_eq_true] at h
  exact h.1.1.1
theorem mGrOk_popc {ds : List D} {b : Int} {list : List Int} (h : mGrOk ds b list = true) : popc (mMask ds) ≤ 6 := by
  rw [mGrOk_is] at h
  simp only [Bool.and_eq_true, decide_eq_true_eq] at h
  exact h.1.1.2
theorem mGreat_arN (ds : List D) (b : Int) (list : List Int) : ∀ a ∈ mGreat ds b list, ArN a := by
  intro a ha
  obtain ⟨h1, h2⟩ := mGreat_sub a ha
  exact arms_arN (mMask_lt12 (vFlag_in (mGrOk_flag h1))) a h2
theorem mGreat_ok (ds : List D) (b : Int) (list : List Int) : ∀ a ∈ mGreat ds b list, a.ok := fun a ha => arN_ok (mGreat_arN ds b list a ha)
theorem mGreat_len (ds : List D) (b : Int) (list : List Int) : (mGreat ds b list).length ≤ 4096 := by
  rw [mGreat_V]
  cases h : mGrOk ds b list
  · exact Nat.zero_le _
  · rw [if_pos rfl]
    have h1 := mArmsIn_len (list := list) (mGrOk_popc h)
    have h2 := List.length_filter_le (fun a => !covV (mArmsIn (mMask ds) list) a) (mArmsIn (mMask ds) list)
    unfold mGrV
    omega
end Go.Proofs.Ytpmanbmhbfnefaa
