import Derived.Test.YtkholjcmaebaaaaTurnP
import Derived.Test.YtkholjcmaebaaaaCatK
import Derived.Test.YtkholjcmaebaaaaBaseC
namespace Go.Proofs.Ytkholjcmaebaaaa
open Go.RowKit
set_option linter.unusedVariables false
set_option maxRecDepth 100000

set_option maxHeartbeats 8000000 in
theorem specTurn_any (ks : List Ch) (A : Option Addr) (n c : Nat) (w : World) (hr : SK w w.heap.size A n c ks) (hn : n ≤ 1048576) :
    Calls Try.prog 47 #[.slice A n c] w (FreshK (mTurn ks) w) := by
  obtain rfl := hr.len
  have HR := Lib.hid hr
  have hcap := hr.cap
  have hmx := hr.max
  unfold maxLen at hmx
  clear hr
  go_enter Try.func47, Try.ntmps47
  go_wp2
  have H0 : Hid (Below w.heap.size w (w.alloc (.cells #[] 137))) := Lib.hid ((Below.refl _ _).alloc (Nat.le_refl _) _)
  have H1 : Hid ((w.alloc (.cells #[] 137)).ownsRow w.heap.size 137 4 (.slice (some ⟨w.heap.size, 0, none⟩) 0 0) 0 []) := Lib.hid (World.ownsRow_made w #[] 0 (Nat.le_refl _) (by unfold maxLen; omega) rfl)
  go_loopw [3, 4] (fun v i wr => ∃ k q : Nat, k ≤ ks.length ∧ i = .int .i64 ((k : Int) - 1) ∧ Hid (q = ks.length - k) ∧ q ≤ ks.length ∧ Hid (wr.ownsRow w.heap.size 137 4 v q (flatK ((ks.drop k).reverse.map revC))) ∧ Hid (Below w.heap.size w wr)) (fun _ i _ => (intOf i + 1).toNat)
  case atStart => exact ⟨ks.length, 0, Nat.le_refl _, by go_num, Lib.hid (by omega), by omega, Lib.hid (by rw [List.drop_of_length_le (Nat.le_refl _)]; exact H1.out), H0⟩
  case round =>
    clear H1 H0
    obtain ⟨k, q, hk, rfl, hq, hql, hown, hbel⟩ := hrel
    by_cases hlt : 1 ≤ k
    · obtain ⟨AV, cV, rfl⟩ := own_form hown.out
      obtain ⟨j, rfl⟩ : ∃ j, k = j + 1 := ⟨k - 1, by omega⟩
      have hj : j < ks.length := by omega
      have HS : Hid ((ks.drop j).reverse.map revC = (ks.drop (j + 1)).reverse.map revC ++ [revC ks[j]]) := Lib.hid (turn_snoc hj)
      obtain ⟨b, o, hA, hbb, g1, g2, g3, g4⟩ := (HR.out.below hbel.out).at_ hj
      subst hA
      have hi1 : (j : Int) < (ks.length : Int) := by omega
      have hi0 : (0 : Int) ≤ (j : Int) := by omega
      have hji : ((j + 1 : Nat) : Int) - 1 = (j : Int) := by omega
      rw [hji]
      have HTL : Hid (((ks.drop (j + 1)).reverse.map revC).length = ks.length - (j + 1)) := Lib.hid (by simp)
      generalize ks[j] = d at *
      obtain ⟨kd, nm, ol, nw⟩ := d
      dsimp only at g1 g2 g3 g4
      rcases (show kd = 0 ∨ kd = 1 ∨ (kd ≠ 0 ∧ kd ≠ 1) by omega) with hkd | hkd | ⟨hkd, hkd1⟩
      · subst hkd
        have HKD : Hid (revC ⟨0, nm, ol, nw⟩ = ⟨1, nm, nw, ol⟩) := Lib.hid (by simp [revC, turnKd])
        go_wp2_with fail
        go_region_held3 (fun w' => w'.cell? ⟨b, o + j * 4, none⟩ = some (.int .i64 0) ∧ w'.cell? ⟨b, o + j * 4 + 1, none⟩ = some (.string nm) ∧ w'.cell? ⟨b, o + j * 4 + 2, none⟩ = some (.int .i64 ol) ∧ w'.cell? ⟨b, o + j * 4 + 3, none⟩ = some (.int .i64 nw))
          (first | exact ⟨g1, g2, g3, g4⟩ | exact ⟨keepA g1, keepA g2, keepA g3, keepA g4⟩) (fail)
        all_goals
          obtain ⟨W1, hW1⟩ : ∃ W : World, W = (wr.alloc (.cells #[.int .i64 0, .string nm, .int .i64 nw, .int .i64 ol] 137)).drew := ⟨_, rfl⟩
          have e0 : W1.cell? ⟨wr.heap.size, 0, none⟩ = some (.int .i64 0) := by rw [hW1]; simp [go_sem]
          have e1 : W1.cell? ⟨wr.heap.size, 1, none⟩ = some (.string nm) := by rw [hW1]; simp [go_sem]
          have e2 : W1.cell? ⟨wr.heap.size, 2, none⟩ = some (.int .i64 nw) := by rw [hW1]; simp [go_sem]
          have e3 : W1.cell? ⟨wr.heap.size, 3, none⟩ = some (.int .i64 ol) := by rw [hW1]; simp [go_sem]
          have ef : W1.frozen? ⟨wr.heap.size, 0, none⟩ = false := by rw [hW1]; simp [go_sem]
          have eg : W1.cell? ⟨b, o + j * 4, none⟩ = some (.int .i64 0) := by rw [hW1]; exact keepA g1
          have HOW : Hid (W1.ownsRow w.heap.size 137 4 (.slice AV q cV) q (flatK ((ks.drop (j + 1)).reverse.map revC))) := Lib.hid (by rw [hW1]; exact hown.out.alloc _)
          have HBW : Hid (Below w.heap.size w W1) := Lib.hid (by rw [hW1]; exact (hbel.out.alloc hbel.out.size _).drew)
          have HNE : Hid ((Value.slice AV q cV).ownBlock ≠ some wr.heap.size) := Lib.hid (fun e => by have := (hown.out.lt _ e).2; omega)
          have hle := hbel.out.size
          try rw [← hW1]
          clear hW1
          go_wp2_with (
            at_builtin
            refine wpList_app_K rfl _ _ rfl w.heap.size _ q _ rfl (own_setCell HOW.out HNE.out _) _ _ _ _ _ _ rfl (by first | rfl | simp) (by omega) (by rw [World.size_setCell]; exact HBW.out.size) ?_
            intro v' w7 ho hg
            obtain ⟨A7, c7, rfl⟩ := own_form ho
            have HO7 := Lib.hid ho
            have HB7 : Hid (Below w.heap.size w w7) := Lib.hid ((HBW.out.setCell (by show w.heap.size ≤ wr.heap.size; exact hle) _).trans hg)
            clear ho hg)
          go_roundw
          case rel => exact ⟨j, q + 1, by omega, by go_num, Lib.hid (by have := hq.out; omega), by have := hq.out; omega, Lib.hid (by rw [HS.out, flatK_app, HKD.out]; exact HO7.out), HB7⟩
          case measure => simp [intOf]
      · subst hkd
        have HKD : Hid (revC ⟨1, nm, ol, nw⟩ = ⟨0, nm, nw, ol⟩) := Lib.hid (by simp [revC, turnKd])
        go_wp2_with fail
        go_region_held3 (fun w' => w'.cell? ⟨b, o + j * 4, none⟩ = some (.int .i64 1) ∧ w'.cell? ⟨b, o + j * 4 + 1, none⟩ = some (.string nm) ∧ w'.cell? ⟨b, o + j * 4 + 2, none⟩ = some (.int .i64 ol) ∧ w'.cell? ⟨b, o + j * 4 + 3, none⟩ = some (.int .i64 nw))
          (first | exact ⟨g1, g2, g3, g4⟩ | exact ⟨keepA g1, keepA g2, keepA g3, keepA g4⟩) (fail)
        all_goals
          obtain ⟨W1, hW1⟩ : ∃ W : World, W = (wr.alloc (.cells #[.int .i64 1, .string nm, .int .i64 nw, .int .i64 ol] 137)).drew := ⟨_, rfl⟩
          have e0 : W1.cell? ⟨wr.heap.size, 0, none⟩ = some (.int .i64 1) := by rw [hW1]; simp [go_sem]
          have e1 : W1.cell? ⟨wr.heap.size, 1, none⟩ = some (.string nm) := by rw [hW1]; simp [go_sem]
          have e2 : W1.cell? ⟨wr.heap.size, 2, none⟩ = some (.int .i64 nw) := by rw [hW1]; simp [go_sem]
          have e3 : W1.cell? ⟨wr.heap.size, 3, none⟩ = some (.int .i64 ol) := by rw [hW1]; simp [go_sem]
          have ef : W1.frozen? ⟨wr.heap.size, 0, none⟩ = false := by rw [hW1]; simp [go_sem]
          have eg : W1.cell? ⟨b, o + j * 4, none⟩ = some (.int .i64 1) := by rw [hW1]; exact keepA g1
          have HOW : Hid (W1.ownsRow w.heap.size 137 4 (.slice AV q cV) q (flatK ((ks.drop (j + 1)).reverse.map revC))) := Lib.hid (by rw [hW1]; exact hown.out.alloc _)
          have HBW : Hid (Below w.heap.size w W1) := Lib.hid (by rw [hW1]; exact (hbel.out.alloc hbel.out.size _).drew)
          have HNE : Hid ((Value.slice AV q cV).ownBlock ≠ some wr.heap.size) := Lib.hid (fun e => by have := (hown.out.lt _ e).2; omega)
          have hle := hbel.out.size
          try rw [← hW1]
          clear hW1
          go_wp2_with (
            at_builtin
            refine wpList_app_K rfl _ _ rfl w.heap.size _ q _ rfl (own_setCell HOW.out HNE.out _) _ _ _ _ _ _ rfl (by first | rfl | simp) (by omega) (by rw [World.size_setCell]; exact HBW.out.size) ?_
            intro v' w7 ho hg
            obtain ⟨A7, c7, rfl⟩ := own_form ho
            have HO7 := Lib.hid ho
            have HB7 : Hid (Below w.heap.size w w7) := Lib.hid ((HBW.out.setCell (by show w.heap.size ≤ wr.heap.size; exact hle) _).trans hg)
            clear ho hg)
          go_roundw
          case rel => exact ⟨j, q + 1, by omega, by go_num, Lib.hid (by have := hq.out; omega), by have := hq.out; omega, Lib.hid (by rw [HS.out, flatK_app, HKD.out]; exact HO7.out), HB7⟩
          case measure => simp [intOf]
      · have HKD : Hid (revC ⟨kd, nm, ol, nw⟩ = ⟨kd, nm, nw, ol⟩) := Lib.hid (by simp [revC, turnKd, hkd, hkd1])
        go_wp2_with fail
        go_region_held3 (fun w' => w'.cell? ⟨b, o + j * 4, none⟩ = some (.int .i64 kd) ∧ w'.cell? ⟨b, o + j * 4 + 1, none⟩ = some (.string nm) ∧ w'.cell? ⟨b, o + j * 4 + 2, none⟩ = some (.int .i64 ol) ∧ w'.cell? ⟨b, o + j * 4 + 3, none⟩ = some (.int .i64 nw))
          (first | exact ⟨g1, g2, g3, g4⟩ | exact ⟨keepA g1, keepA g2, keepA g3, keepA g4⟩) (fail)
        all_goals
          obtain ⟨W1, hW1⟩ : ∃ W : World, W = (wr.alloc (.cells #[.int .i64 kd, .string nm, .int .i64 nw, .int .i64 ol] 137)).drew := ⟨_, rfl⟩
          have e0 : W1.cell? ⟨wr.heap.size, 0, none⟩ = some (.int .i64 kd) := by rw [hW1]; simp [go_sem]
          have e1 : W1.cell? ⟨wr.heap.size, 1, none⟩ = some (.string nm) := by rw [hW1]; simp [go_sem]
          have e2 : W1.cell? ⟨wr.heap.size, 2, none⟩ = some (.int .i64 nw) := by rw [hW1]; simp [go_sem]
          have e3 : W1.cell? ⟨wr.heap.size, 3, none⟩ = some (.int .i64 ol) := by rw [hW1]; simp [go_sem]
          have ef : W1.frozen? ⟨wr.heap.size, 0, none⟩ = false := by rw [hW1]; simp [go_sem]
          have eg : W1.cell? ⟨b, o + j * 4, none⟩ = some (.int .i64 kd) := by rw [hW1]; exact keepA g1
          have HOW : Hid (W1.ownsRow w.heap.size 137 4 (.slice AV q cV) q (flatK ((ks.drop (j + 1)).reverse.map revC))) := Lib.hid (by rw [hW1]; exact hown.out.alloc _)
          have HBW : Hid (Below w.heap.size w W1) := Lib.hid (by rw [hW1]; exact (hbel.out.alloc hbel.out.size _).drew)
          have HNE : Hid ((Value.slice AV q cV).ownBlock ≠ some wr.heap.size) := Lib.hid (fun e => by have := (hown.out.lt _ e).2; omega)
          have hle := hbel.out.size
          try rw [← hW1]
          clear hW1
          go_wp2_with (
            at_builtin
            refine wpList_app_K rfl _ _ rfl w.heap.size _ q _ rfl HOW.out _ _ _ _ _ _ rfl (by first | rfl | simp) (by omega) HBW.out.size ?_
            intro v' w7 ho hg
            obtain ⟨A7, c7, rfl⟩ := own_form ho
            have HO7 := Lib.hid ho
            have HB7 : Hid (Below w.heap.size w w7) := Lib.hid (HBW.out.trans hg)
            clear ho hg)
          go_roundw
          case rel => exact ⟨j, q + 1, by omega, by go_num, Lib.hid (by have := hq.out; omega), by have := hq.out; omega, Lib.hid (by rw [HS.out, flatK_app, HKD.out]; exact HO7.out), HB7⟩
          case measure => simp [intOf]
    · obtain rfl : k = 0 := by omega
      obtain ⟨A5, c5, rfl⟩ := own_form hown.out
      have HO := hown.out
      rw [List.drop_zero, hq.out, Nat.sub_zero] at HO
      have HB := hbel
      have hl := mTurn_len ks
      go_wp2
      go_ret
      exact ⟨A5, c5, by rw [hl, hq.out]; rfl, by rw [hl]; exact HO, HB.out⟩
end Go.Proofs.Ytkholjcmaebaaaa
