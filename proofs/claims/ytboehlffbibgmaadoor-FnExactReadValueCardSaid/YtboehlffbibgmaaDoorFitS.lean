import Derived.Test.YtboehlffbibgmaaDoorFitP
import Derived.Test.YtboehlffbibgmaaDoorAlgS
namespace Go.Proofs.YtboehlffbibgmaaDoor
open Go.RowKit
set_option linter.unusedVariables false
set_option linter.unusedSimpArgs false
set_option maxRecDepth 100000

set_option maxHeartbeats 8000000 in
theorem fitting_any (ds : List D) (a : Nat) (A : Option Addr) (n c : Nat) (w : World) (hr : SD w w.heap.size A n c ds) (hin : ∀ d ∈ ds, inR d) (hn : n ≤ 1048576) (ha : a < 4096) :
    Calls Tryd.prog 80 #[.slice A n c, .int .i64 a] w (DefsP (mFit ds a) w) := by
  obtain rfl := hr.len
  have hl := hr.max
  have hl2 := hr.cap
  unfold maxLen at hl
  have HR := Lib.hid hr
  have HIN := Lib.hid hin
  clear hr hin
  have hb : Below w.heap.size w (w.alloc (.cells #[] 83)) := (Below.refl _ _).alloc (Nat.le_refl _) _
  have ho : (w.alloc (.cells #[] 83)).ownsRow w.heap.size 83 2 (.slice (some ⟨w.heap.size, 0, none⟩) 0 0) 0 (flat []) := World.ownsRow_made w #[] 0 (Nat.le_refl _) (by unfold maxLen; omega) rfl
  have H0 := Lib.hid hb
  have H1 := Lib.hid ho
  clear hb ho
  go_enter Tryd.func80, Tryd.ntmps80
  go_wp2
  go_loopw [5, 6] (fun v i wr => ∃ k : Nat, k ≤ ds.length ∧ i = .int .i64 k ∧ Hid (wr.ownsRow w.heap.size 83 2 v (fitTo ds a k).length (flat (fitTo ds a k))) ∧ Hid (Below w.heap.size w wr)) (fun _ i _ => ds.length - (intOf i).toNat)
  case atStart => exact ⟨0, Nat.zero_le _, rfl, H1, H0⟩
  case round =>
    clear H0 H1
    obtain ⟨k, hk, rfl, hown, hbel⟩ := hrel
    by_cases hlt : k < ds.length
    · obtain ⟨b, o, rfl, hb, c1, c2⟩ := (HR.out.below hbel.out).at_ hlt
      have hi1 : (k : Int) < (ds.length : Int) := by omega
      have hi0 : (0 : Int) ≤ (k : Int) := by omega
      have HI := Lib.hid (HIN.out _ (List.getElem_mem hlt))
      obtain ⟨x, hx⟩ : ∃ x : Nat, ds[k].val = x := ⟨ds[k].val.toNat, (Int.toNat_of_nonneg HI.out.1).symm⟩
      have hx4 : x < 4096 := by have := HI.out.2; omega
      have HT := Lib.hid (fitTo_succ ds a k hlt)
      have HE : Hid (encD ds[k] = [.string ds[k].name, .int .i64 x]) := Lib.hid (by unfold encD; rw [hx])
      have HL := Lib.hid (fitTo_len ds a k)
      have HC : Hid (hasV ds[k] = decide (x ≠ 0) ∧ fitIn a ds[k] = decide (nl x a = 0)) := Lib.hid (by
        unfold hasV fitIn; rw [hx, Int.toNat_natCast]; refine ⟨?_, rfl⟩
        by_cases h0 : x = 0
        · subst h0; rfl
        · rw [decide_eq_true h0, decide_eq_true (by omega)])
      rw [hx] at c2
      clear hx
      by_cases h0 : x = 0
      · subst h0
        have HTT : Hid (fitTo ds a (k + 1) = fitTo ds a k) := Lib.hid (by rw [HT.out, HC.out.1]; simp)
        go_wp2
        go_roundw
        case rel => exact ⟨k + 1, by omega, by go_num, Lib.hid (by rw [HTT.out]; exact hown.out), hbel⟩
        case measure => simp [intOf]; omega
      · have hx0 : (0 : Int) < (x : Int) := by omega
        obtain ⟨z, hz⟩ : ∃ z, nl x a = z := ⟨_, rfl⟩
        have HZ := Lib.hid hz
        by_cases hz0 : z = 0
        · subst hz0
          have HTT : Hid (fitTo ds a (k + 1) = fitTo ds a k ++ [ds[k]]) := Lib.hid (by rw [HT.out, HC.out.1, HC.out.2, decide_eq_true h0, decide_eq_true hz]; rfl)
          clear hz
          go_wp2_with (first | (go_at_call 43; refine (less_any x a _ hx4 ha HZ.out).mono ?_; rintro e w' ⟨rfl, rfl⟩) | (at_builtin; refine wpList_app_D rfl _ _ rfl w.heap.size _ _ _ rfl hown.out _ _ _ _ rfl (by first | rfl | simp) (by have := HL.out; omega) hbel.out.size ?_; intro v' w5 ho hb5; have HO5 := Lib.hid ho; have HB5 := Lib.hid hb5; clear ho hb5))
          go_roundw
          case rel => exact ⟨k + 1, by omega, by go_num, Lib.hid (by rw [HTT.out, List.length_append]; simpa [flat, HE.out] using HO5.out), Lib.hid (hbel.out.trans HB5.out)⟩
          case measure => simp [intOf]; omega
        · have HTT : Hid (fitTo ds a (k + 1) = fitTo ds a k) := Lib.hid (by rw [HT.out, HC.out.2, hz, decide_eq_false hz0]; simp)
          have hz1 : ((z : Int) == 0) = false := by rw [beq_eq_false_iff_ne]; omega
          clear hz hz0
          go_wp2_with (go_at_call 43; refine (less_any x a _ hx4 ha HZ.out).mono ?_; rintro e w' ⟨rfl, rfl⟩)
          go_roundw
          case rel => exact ⟨k + 1, by omega, by go_num, Lib.hid (by rw [HTT.out]; exact hown.out), hbel⟩
          case measure => simp [intOf]; omega
    · obtain rfl : k = ds.length := by omega
      go_wp2
      go_ret
      obtain ⟨A', c', hv⟩ := own_form hown.out
      subst hv
      have h2 := hown.out
      rw [fitTo_all] at h2 ⊢
      exact ⟨A', c', rfl, h2, hbel.out⟩
end Go.Proofs.YtboehlffbibgmaaDoor
