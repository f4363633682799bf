import Derived.Test.YtpmanbmhbfnefaaArmS
import Derived.Test.YtpmanbmhbfnefaaBaseC
import Derived.Deep.RegionHeld3
namespace Go.Proofs.Ytpmanbmhbfnefaa
open Go.RowKit Go.Maps
set_option linter.unusedVariables false
set_option maxRecDepth 100000

/-! ### the model's functions on lists of arms -/
def ArN (a : Ar) : Prop := ∃ p q : Nat, a.all = p ∧ a.non = q ∧ p < 4096 ∧ q < 4096
theorem arN_fits {m : Nat} {a : Ar} (h : fitsA m a = true) (hm : m < 4096) : ArN a := by
  obtain ⟨p, q, h1, h2, h3, h4, _⟩ := fitsA_nat h hm
  exact ⟨p, q, h1, h2, h3, h4⟩
theorem matchA_is {a : Ar} {p q : Nat} (h1 : a.all = p) (h2 : a.non = q) (n : Nat) : matchA n a = matchN p q n := by unfold matchA; rw [h1, h2, Int.toNat_natCast, Int.toNat_natCast]
theorem arms_nat {ds : List D} {b : Int} {rs : List Ar} (h : mArms ds b rs = true) : ∀ a ∈ rs, ArN a := fun a ha => arN_fits (mArms_fits h a ha) (mMask_lt12 (vFlag_in (mArms_flag h)))

set_option maxHeartbeats 2000000 in
theorem partsIn_any (p : Nat) (w : World) (hp : p < 4096) : Calls Try.prog 98 #[.int .i64 p] w (IntsP (partsTo p (p + 1)) w) := by
  go_enter Try.func98, Try.ntmps98
  go_wp2_with fail
  have hb : Below w.heap.size w (w.alloc (.cells #[] 3)) := (Below.refl _ _).alloc (Nat.le_refl _) _
  have ho : (w.alloc (.cells #[] 3)).ownsRow w.heap.size 3 1 (.slice (some ⟨w.heap.size, 0, none⟩) 0 0) (partsTo p 0).length (flatI (partsTo p 0)) := World.ownsRow_made w #[] 0 (Nat.le_refl _) (by unfold maxLen; omega) rfl
  have hs : w.heap.size ≤ (w.alloc (.cells #[] 3)).heap.size := by simp
  generalize (w.alloc (.cells #[] 3)) = w2 at *
  have HB2 := Lib.hid hb
  have HO2 := Lib.hid ho
  clear hb ho
  go_wp2
  go_loopw [3, 4] (fun v i wr => ∃ k : Nat, k ≤ p + 1 ∧ i = .int .i64 k ∧ Hid (wr.ownsRow w.heap.size 3 1 v (partsTo p k).length (flatI (partsTo p k))) ∧ Hid (Below w.heap.size w wr)) (fun _ i _ => p + 1 - (intOf i).toNat)
  case atStart => exact ⟨0, Nat.zero_le _, rfl, HO2, HB2⟩
  case round =>
    clear HO2 HB2
    obtain ⟨k, hk, rfl, hown, hbel⟩ := hrel
    by_cases hlt : k ≤ p
    · have hk4 : k < 4096 := by omega
      have hle : (k : Int) ≤ (p : Int) := by omega
      have HT := Lib.hid (partsTo_succ p k)
      have HL := Lib.hid (partsTo_len p k)
      obtain ⟨z, hz⟩ : ∃ z, nl k p = z := ⟨_, rfl⟩
      have HZ := Lib.hid hz
      have HC : Hid (partN p k = decide (z = 0)) := Lib.hid (by unfold partN; rw [hz])
      clear hz
      by_cases h0 : z = 0
      · have HTT : Hid (partsTo p (k + 1) = partsTo p k ++ [(k : Int)]) := Lib.hid (by rw [HT.out, HC.out, decide_eq_true h0]; rfl)
        subst h0
        go_wp2_with (first | (go_at_call 68; refine (less_any k p _ hk4 hp HZ.out).mono ?_; rintro e w3 ⟨rfl, rfl⟩) | (at_builtin; refine wpList_app_I rfl _ _ rfl _ _ _ _ rfl hown.out _ _ _ rfl (by first | rfl | simp) (by have := HL.out; omega) hbel.out.size ?_; intro v' w4 ho1 hb1; have HO1 := Lib.hid ho1; have HB4 := Lib.hid hb1; clear ho1 hb1))
        go_roundw
        case rel => exact ⟨k + 1, by omega, by go_num, Lib.hid (by rw [HTT.out, List.length_append]; simpa [flatI] using HO1.out), Lib.hid (hbel.out.trans HB4.out)⟩
        case measure => simp [intOf]; omega
      · have HTT : Hid (partsTo p (k + 1) = partsTo p k) := Lib.hid (by rw [HT.out, HC.out, decide_eq_false h0]; simp)
        have e2 : ((z : Int) == 0) = false := by rw [beq_eq_false_iff_ne]; omega
        go_wp2_with (go_at_call 68; refine (less_any k p _ hk4 hp HZ.out).mono ?_; rintro e w3 ⟨rfl, rfl⟩)
        go_roundw
        case rel => exact ⟨k + 1, by omega, by go_num, Lib.hid (by rw [HTT.out]; exact hown.out), hbel⟩
        case measure => simp [intOf]; omega
    · obtain rfl : k = p + 1 := by omega
      have hle : ¬ (((p + 1 : Nat) : Int) ≤ (p : Int)) := by omega
      go_wp2
      go_ret
      obtain ⟨A', c', hv⟩ := own_form hown.out
      subst hv
      exact ⟨A', c', rfl, hown.out, hbel.out⟩

end Go.Proofs.Ytpmanbmhbfnefaa
