import Derived.Test.YtboehlffbibgmaaDoorShwP
import Derived.Test.YtboehlffbibgmaaDoorBaseB
import Derived.Test.YtboehlffbibgmaaDoorCel
namespace Go.Proofs.YtboehlffbibgmaaDoor
open Go.RowKit
set_option linter.unusedVariables false
set_option linter.unusedSimpArgs false
set_option maxRecDepth 100000

set_option maxHeartbeats 4000000 in
theorem number_small (n : Nat) (h : n < 10) (w : World) : Calls Tryd.prog 49 #[.int .i64 n] w fun e w' => e = .returned (.string (decB n)) ∧ w = w' := by
  have hn : n = 0 ∨ n = 1 ∨ n = 2 ∨ n = 3 ∨ n = 4 ∨ n = 5 ∨ n = 6 ∨ n = 7 ∨ n = 8 ∨ n = 9 := by omega
  rw [decB_small h]
  clear h
  rcases hn with rfl | rfl | rfl | rfl | rfl | rfl | rfl | rfl | rfl | rfl
  all_goals
    go_enter Tryd.func49, Tryd.ntmps49
    go_wp2
    go_ret
    exact ⟨rfl, rfl⟩
set_option maxHeartbeats 4000000 in
theorem number_any : ∀ (n : Nat) (z : Int) (w : World), z = n → n ≤ 1000000 → Calls Tryd.prog 49 #[.int .i64 z] w fun e w' => e = .returned (.string (decB n)) ∧ w = w' := by
  intro n
  induction n using Nat.strongRecOn with
  | _ n ih =>
    intro z w hz hn
    subst hz
    by_cases h : n < 10
    · exact number_small n h w
    · have h1 : ¬ (n : Int) < 10 := by omega
      have H1 := Lib.hid (ih (n / 10) (by omega))
      have HE := Lib.hid (decB_big h)
      have hr : n % 10 < 10 := by omega
      have s1 : (decB (n / 10)).size ≤ 8 := decB_size 7 _ (by omega)
      have s2 : (decB (n % 10)).size ≤ 8 := decB_size 7 _ (by omega)
      clear ih
      go_enter Tryd.func49, Tryd.ntmps49
      go_wp2_with fail
      refine (H1.out _ _ (by go_num) (by omega)).mono ?_
      rintro e w1 ⟨rfl, rfl⟩
      have h2 := number_small (n % 10) hr w
      go_wp2_with fail
      refine (by have h3 := h2; have e3 : ((n % 10 : Nat) : Int) = ((n : Int).tmod 10) := by go_num
                 first | exact h3 | (rw [e3] at h3; exact h3) : Calls _ _ _ _ fun e w' => e = .returned (.string (decB (n % 10))) ∧ w = w').mono ?_
      rintro e w1 ⟨rfl, rfl⟩
      go_wp2
      go_ret
      rw [HE.out]
      exact ⟨rfl, rfl⟩

set_option maxHeartbeats 4000000 in
theorem specShowE_no (ds : List D) (x : Int) (A : Option Addr) (n c : Nat) (w : World) (hr : SD w w.heap.size A n c ds) (hno : vEnum ds = false ∨ x < -1000 ∨ 1000 < x) :
    Calls Tryd.prog 18 #[.agg #[.slice A n c], .int .i64 x] w fun e w' => e = .returned (.string ⟨#[]⟩) ∧ Below w.heap.size w w' := by
  have HR := Lib.hid hr
  clear hr
  have h0 : Below w.heap.size w (w.alloc (.cells #[.slice A n c] 41)) := (Below.refl _ _).alloc (Nat.le_refl _) _
  have H0 := Lib.hid h0
  have HS := Lib.hid ((HR.out.below h0).call h0.size)
  clear h0
  obtain ⟨v, hv⟩ : ∃ v, vEnum ds = v := ⟨_, rfl⟩
  obtain ⟨r, hi⟩ : ∃ r, (decide (-1000 ≤ x) && decide (x ≤ 1000)) = r := ⟨_, rfl⟩
  have HV := Lib.hid hv
  have HI := Lib.hid hi
  have hvr : v = false ∨ (v = true ∧ r = false) := by
    cases v
    · exact .inl rfl
    · refine .inr ⟨rfl, ?_⟩
      rw [← hi]
      rcases hno with h | h | h
      · rw [hv] at h; cases h
      · rw [decide_eq_false (show ¬ -1000 ≤ x by omega)]; rfl
      · rw [decide_eq_false (show ¬ x ≤ 1000 by omega), Bool.and_false]
  clear hv hi hno
  rcases hvr with rfl | ⟨rfl, rfl⟩
  all_goals
    go_enter Tryd.func18, Tryd.ntmps18
    go_wp2_with (first | (go_at_call 47; refine (inRange_v x _ _ _ HI.out).mono ?_; rintro e w' ⟨rfl, rfl⟩) | (go_at_call 46; refine (specVE_v ds _ _ _ _ HS.out HV.out).mono ?_; rintro e w' ⟨rfl, hb⟩))
    go_ret
    exact ⟨rfl, H0.out.trans (hb.mono H0.out.size)⟩
set_option maxHeartbeats 4000000 in
theorem specShowE_yes (ds : List D) (x : Int) (A : Option Addr) (n c : Nat) (w : World) (hr : SD w w.heap.size A n c ds) (hv : vEnum ds = true) (h1 : -1000 ≤ x) (h2 : x ≤ 1000) :
    Calls Tryd.prog 18 #[.agg #[.slice A n c], .int .i64 x] w fun e w' => e = .returned (.string (mShowE ds x)) ∧ Below w.heap.size w w' := by
  obtain rfl := hr.len
  have hl := hr.max
  have hl2 := hr.cap
  unfold maxLen at hl
  have HR := Lib.hid hr
  clear hr
  have h0 : Below w.heap.size w (w.alloc (.cells #[.slice A ds.length c] 41)) := (Below.refl _ _).alloc (Nat.le_refl _) _
  have H0 := Lib.hid h0
  have HS := Lib.hid ((HR.out.below h0).call h0.size)
  clear h0
  have HV := Lib.hid hv
  have HI : Hid ((decide (-1000 ≤ x) && decide (x ≤ 1000)) = true) := Lib.hid (by rw [decide_eq_true h1, decide_eq_true h2]; rfl)
  rcases fidx_cases (isVal x) ds with ⟨hx, hno⟩ | ⟨k, hk, hx, hp, hno⟩
  · have HX := Lib.hid hx
    have HM := Lib.hid (showE_num hv h1 h2 (by omega))
    clear hv hx hno
    rw [HM.out]
    by_cases hn : x < 0
    · obtain ⟨m, rfl⟩ : ∃ m : Nat, x = -(m : Int) := ⟨x.natAbs, by omega⟩
      have hm : 0 < m := by omega
      have HE := Lib.hid (itoaB_neg m hm)
      have s1 : (decB m).size ≤ 8 := decB_size 7 _ (by omega)
      go_enter Tryd.func18, Tryd.ntmps18
      go_wp2_with (first | (go_at_call 47; refine (inRange_v _ _ _ _ HI.out).mono ?_; rintro e w' ⟨rfl, rfl⟩) | (go_at_call 48; refine (valueAt_v ds _ _ _ _ _ ((HS.out.below HB.out).call HB.out.size) HX.out).mono ?_; rintro e w' ⟨rfl, rfl⟩) | (go_at_call 49; refine (number_any m _ _ (by go_num) (by omega)).mono ?_; rintro e w' ⟨rfl, rfl⟩) | (go_at_call 46; refine (specVE_v ds _ _ _ _ HS.out HV.out).mono ?_; rintro e w' ⟨rfl, hb⟩; have c1 := keep1 hb (show (w.alloc (.cells #[.slice A ds.length c] 41)).cell? ⟨w.heap.size, 0, none⟩ = some (.slice A ds.length c) by simp [go_sem]); have HB := Lib.hid hb; clear hb))
      go_ret
      rw [HE.out]
      exact ⟨rfl, H0.out.trans (HB.out.mono H0.out.size)⟩
    · obtain ⟨m, rfl⟩ : ∃ m : Nat, x = (m : Int) := ⟨x.toNat, by omega⟩
      have HE := Lib.hid (itoaB_pos m)
      go_enter Tryd.func18, Tryd.ntmps18
      go_wp2_with (first | (go_at_call 47; refine (inRange_v _ _ _ _ HI.out).mono ?_; rintro e w' ⟨rfl, rfl⟩) | (go_at_call 48; refine (valueAt_v ds _ _ _ _ _ ((HS.out.below HB.out).call HB.out.size) HX.out).mono ?_; rintro e w' ⟨rfl, rfl⟩) | (go_at_call 49; refine (number_any m _ _ (by go_num) (by omega)).mono ?_; rintro e w' ⟨rfl, rfl⟩) | (go_at_call 46; refine (specVE_v ds _ _ _ _ HS.out HV.out).mono ?_; rintro e w' ⟨rfl, hb⟩; have c1 := keep1 hb (show (w.alloc (.cells #[.slice A ds.length c] 41)).cell? ⟨w.heap.size, 0, none⟩ = some (.slice A ds.length c) by simp [go_sem]); have HB := Lib.hid hb; clear hb))
      go_ret
      rw [HE.out]
      exact ⟨rfl, H0.out.trans (HB.out.mono H0.out.size)⟩
  · have HX := Lib.hid hx
    have HM := Lib.hid (showE_name hv h1 h2 hk hx)
    have hi1 : (k : Int) < (ds.length : Int) := by omega
    clear hv hx hno hp
    rw [HM.out]
    go_enter Tryd.func18, Tryd.ntmps18
    go_wp2_with (first | (go_at_call 47; refine (inRange_v _ _ _ _ HI.out).mono ?_; rintro e w' ⟨rfl, rfl⟩) | (go_at_call 48; refine (valueAt_v ds _ _ _ _ _ ((HS.out.below HB.out).call HB.out.size) HX.out).mono ?_; rintro e w' ⟨rfl, rfl⟩) | (go_at_call 46; refine (specVE_v ds _ _ _ _ HS.out HV.out).mono ?_; rintro e w' ⟨rfl, hb⟩; have c1 := keep1 hb (show (w.alloc (.cells #[.slice A ds.length c] 41)).cell? ⟨w.heap.size, 0, none⟩ = some (.slice A ds.length c) by simp [go_sem]); obtain ⟨b, o, rfl, hbb, d1, d2⟩ := (HS.out.below hb).at_ hk; have HB := Lib.hid hb; clear hb))
    go_ret
    exact ⟨rfl, H0.out.trans (HB.out.mono H0.out.size)⟩
theorem specShowE_v (ds : List D) (x : Int) (A : Option Addr) (n c : Nat) (w : World) (hr : SD w w.heap.size A n c ds) {s : ByteArray} (hs : mShowE ds x = s) :
    Calls Tryd.prog 18 #[.agg #[.slice A n c], .int .i64 x] w fun e w' => e = .returned (.string s) ∧ Below w.heap.size w w' := by
  subst hs
  by_cases h : vEnum ds = true ∧ -1000 ≤ x ∧ x ≤ 1000
  · exact specShowE_yes ds x A n c w hr h.1 h.2.1 h.2.2
  · have hno : vEnum ds = false ∨ x < -1000 ∨ 1000 < x := by
      cases hv : vEnum ds
      · exact .inl rfl
      · rw [hv] at h; right
        by_cases h1 : x < -1000
        · exact .inl h1
        · right
          by_cases h2 : 1000 < x
          · exact h2
          · exact absurd ⟨rfl, by omega, by omega⟩ h
    rw [showE_no hno]
    exact specShowE_no ds x A n c w hr hno
end Go.Proofs.YtboehlffbibgmaaDoor
