import Derived.Test.YtboehlffbibgmaaDoorRdQ
import Derived.Test.YtboehlffbibgmaaDoorShvS
namespace Go.Proofs.YtboehlffbibgmaaDoor
open Go.RowKit
set_option linter.unusedVariables false
set_option linter.unusedSimpArgs false
set_option maxRecDepth 100000

theorem seven_cell {w : World} {b o : Nat} {s : ByteArray} (h : w.cell? ⟨b, o, none⟩ = some (.string s)) : w.cell? ⟨b, o, none⟩ = some (.string s) := h

/-! ### the model's reading of texts -/
set_option maxHeartbeats 4000000 in
theorem splitAt_any (s : ByteArray) (c : UInt8) (x : Nat) (hx : c.toNat = x) (w : World) (hs : s.size ≤ 1048576) :
    Calls Tryd.prog 68 #[.string s, .int .u8 (x : Int)] w (StrsP (splitT c s) w) := by
  go_enter Tryd.func68, Tryd.ntmps68
  go_wp2
  have H0 : Hid (Below w.heap.size w (w.alloc (.cells #[] 9))) := Lib.hid ((Below.refl _ _).alloc (Nat.le_refl _) _)
  have H1 : Hid ((w.alloc (.cells #[] 9)).ownsRow w.heap.size 9 1 (.slice (some ⟨w.heap.size, 0, none⟩) 0 0) 0 (flatS [])) := Lib.hid (World.ownsRow_made w #[] 0 (Nat.le_refl _) (by unfold maxLen; omega) rfl)
  have HX := Lib.hid hx
  have HZ : Hid (splSt c s [] 0 0) := Lib.hid (spl_zero c s)
  clear hx
  go_loopw [5, 6, 7] (fun v j i wr => ∃ (done : List ByteArray) (q k : Nat), k ≤ s.size ∧ q ≤ k ∧ done.length ≤ q ∧ j = .int .i64 q ∧ i = .int .i64 k ∧ Hid (splSt c s done q k) ∧ Hid (wr.ownsRow w.heap.size 9 1 v done.length (flatS done)) ∧ Hid (Below w.heap.size w wr)) (fun _ _ i _ => s.size - (intOf i).toNat)
  case atStart => exact ⟨[], 0, 0, Nat.zero_le _, Nat.le_refl _, Nat.le_refl _, rfl, rfl, HZ, H1, H0⟩
  case round =>
    clear H0 H1 HZ
    obtain ⟨done, q, k, hk, hq, hd, rfl, rfl, hst, hown, hbel⟩ := hrel
    by_cases hlt : k < s.size
    · have hi1 : (k : Int) < (s.size : Int) := by omega
      have hi0 : (0 : Int) ≤ (k : Int) := by omega
      by_cases he : s[k] = c
      · have e1 : ((s[k].toNat : Int) == (x : Int)) = true := by rw [he, HX.out, beq_self_eq_true]
        have HST := Lib.hid (spl_hit hlt he hst.out)
        have HF : Hid (flatS (done ++ [s.extract q k]) = flatS done ++ [.string (s.extract q k)]) := Lib.hid (by unfold flatS; rw [List.map_append]; rfl)
        have hqk : (q : Int) ≤ (k : Int) := by omega
        have hks : (k : Int) ≤ (s.size : Int) := by omega
        have hq0 : (0 : Int) ≤ (q : Int) := by omega
        clear he
        go_wp2_with (at_builtin; refine wpList_app_S rfl _ _ rfl w.heap.size _ _ _ rfl hown.out _ _ _ rfl (by first | rfl | simp) (by omega) hbel.out.size ?_; intro v' w1 ho1 hb1; have HO1 := Lib.hid ho1; have HB1 := Lib.hid hb1; clear ho1 hb1)
        go_roundw
        case rel => exact ⟨done ++ [s.extract q k], k + 1, k + 1, by omega, Nat.le_refl _, by rw [List.length_append, List.length_singleton]; omega, by go_num, by go_num, HST, Lib.hid (by rw [HF.out, List.length_append, List.length_singleton]; exact HO1.out), Lib.hid (hbel.out.trans HB1.out)⟩
        case measure => simp [intOf]; omega
      · have e1 : ((s[k].toNat : Int) == (x : Int)) = false := by
          rw [beq_eq_false_iff_ne]
          intro e
          have h2 := HX.out
          exact he (UInt8.toNat_inj.1 (by omega))
        have HST := Lib.hid (spl_miss hq hlt he hst.out)
        clear he
        go_wp2
        go_roundw
        case rel => exact ⟨done, q, k + 1, by omega, by omega, hd, rfl, by go_num, HST, hown, hbel⟩
        case measure => simp [intOf]; omega
    · obtain rfl : k = s.size := by omega
      have hi9 : ¬ (s.size : Int) < (s.size : Int) := by omega
      have HE := Lib.hid (spl_end hst.out)
      have HF : Hid (flatS (done ++ [s.extract q s.size]) = flatS done ++ [.string (s.extract q s.size)]) := Lib.hid (by unfold flatS; rw [List.map_append]; rfl)
      have hqk : (q : Int) ≤ (s.size : Int) := by omega
      have hq0 : (0 : Int) ≤ (q : Int) := by omega
      go_wp2_with (at_builtin; refine wpList_app_S rfl _ _ rfl w.heap.size _ _ _ rfl hown.out _ _ _ rfl (by first | rfl | simp) (by omega) hbel.out.size ?_; intro v' w1 ho1 hb1; have HO1 := Lib.hid ho1; have HB1 := Lib.hid hb1; clear ho1 hb1)
      go_ret
      obtain ⟨A', c', hv⟩ := own_form HO1.out
      subst hv
      rw [HE.out]
      exact ⟨A', c', by rw [List.length_append, List.length_singleton]; first | done | rfl, by rw [HF.out, List.length_append, List.length_singleton]; exact HO1.out, hbel.out.trans HB1.out⟩

set_option maxHeartbeats 4000000 in
theorem specRdN_any (s : ByteArray) (w : World) (hs : s.size ≤ 1048576) :
    Calls Tryd.prog 99 #[.string s] w fun e w' => e = .returned (.int .i64 (mRdN s)) ∧ w = w' := by
  have HZ : Hid (rdSt s 0 0) := Lib.hid rfl
  obtain ⟨v, hv⟩ : ∃ v, mRdN s = v := ⟨_, rfl⟩
  have HV := Lib.hid hv
  rw [hv]
  clear hv
  go_enter Tryd.func99, Tryd.ntmps99
  go_wp2
  go_loop [3, 4] (fun m i => ∃ (k n : Nat), k ≤ s.size ∧ n ≤ 40959 ∧ m = .int .i64 n ∧ i = .int .i64 k ∧ Hid (rdSt s k n)) (fun _ i => s.size - (intOf i).toNat)
  case atStart => exact ⟨0, 0, Nat.zero_le _, Nat.zero_le _, rfl, rfl, HZ⟩
  case round =>
    clear HZ
    obtain ⟨k, n, hk, hn, rfl, rfl, hst⟩ := hrel
    by_cases hlt : k < s.size
    · have hi1 : (k : Int) < (s.size : Int) := by omega
      have hi0 : (0 : Int) ≤ (k : Int) := by omega
      by_cases h1 : (s[k].toNat : Int) < 48
      · have HN := Lib.hid (rd_no hlt (.inl (by omega)) hst.out)
        go_wp2
        go_ret
        exact ⟨by rw [← HV.out, HN.out]; first | done | rfl, rfl⟩
      · by_cases h2 : (57 : Int) < (s[k].toNat : Int)
        · have HN := Lib.hid (rd_no hlt (.inr (.inl (by omega))) hst.out)
          go_wp2
          go_ret
          exact ⟨by rw [← HV.out, HN.out]; first | done | rfl, rfl⟩
        · by_cases h3 : (4095 : Int) < (n : Int)
          · have HN := Lib.hid (rd_no hlt (.inr (.inr (by omega))) hst.out)
            go_wp2
            go_ret
            exact ⟨by rw [← HV.out, HN.out]; first | done | rfl, rfl⟩
          · have HS := Lib.hid (rd_step hlt (by omega) (by omega) (by omega) hst.out)
            have hw1 : IntKind.u8.wrap ((s[k].toNat : Int) - 48) = ((s[k].toNat - 48 : Nat) : Int) := by
              have hlt2 := s[k].toNat_lt
              rw [show (s[k].toNat : Int) - 48 = ((s[k].toNat - 48 : Nat) : Int) by omega]
              rw [IntKind.wrap_u8]; omega
            have hw2 : IntKind.i64.wrap ((s[k].toNat - 48 : Nat) : Int) = ((s[k].toNat - 48 : Nat) : Int) := by rw [IntKind.wrap_i64]; omega
            have hd9 : s[k].toNat - 48 ≤ 9 := by omega
            generalize hdd : s[k].toNat - 48 = d at *
            clear hdd
            go_wp2
            go_round
            case rel => exact ⟨k + 1, 10 * n + d, by omega, by omega, by go_num, by go_num, HS⟩
            case measure => simp [intOf]; omega
    · obtain rfl : k = s.size := by omega
      have hi9 : ¬ (s.size : Int) < (s.size : Int) := by omega
      have HE := Lib.hid (rd_end hst.out)
      by_cases h0 : s.size = 0
      · have es : s = ⟨#[]⟩ := ByteArray.ext (Array.eq_empty_of_size_eq_zero h0)
        subst es
        have HN : Hid (v = -1) := Lib.hid (by rw [← HV.out, HE.out, if_neg (fun h => h.1 h0)])
        clear h0 hst HE
        go_wp2
        go_ret
        exact ⟨by rw [HN.out]; first | done | rfl, rfl⟩
      · have e0 : (s.toList == ([] : List UInt8)) = false := by
          rw [beq_eq_false_iff_ne]
          intro e
          rw [Go.ByteArray.toList_eq] at e
          have h2 := congrArg List.length e
          rw [Array.length_toList] at h2
          exact h0 h2
        by_cases h1 : (4096 : Int) < (n : Int)
        · have HN : Hid (v = -1) := Lib.hid (by rw [← HV.out, HE.out, if_neg (fun h => by have := h.2.1; omega)])
          clear h0 hst HE
          go_wp2
          go_ret
          exact ⟨by rw [HN.out]; first | done | rfl, rfl⟩
        · have HNUM := Lib.hid (fun w => number_any n n w rfl (by omega))
          by_cases h2 : decB n = s
          · have HN : Hid (v = n) := Lib.hid (by rw [← HV.out, HE.out, if_pos ⟨h0, by omega, h2⟩])
            have e2 : ((decB n).toList == s.toList) = true := nm_true h2
            generalize decB n = t at *
            clear h0 hst HE h2
            go_wp2_with (go_at_call 49; refine (HNUM.out _).mono ?_; rintro e w6 ⟨rfl, rfl⟩)
            go_ret
            exact ⟨by rw [HN.out]; first | done | rfl, rfl⟩
          · have HN : Hid (v = -1) := Lib.hid (by rw [← HV.out, HE.out, if_neg (fun h => h2 h.2.2)])
            have e2 : ((decB n).toList == s.toList) = false := nm_false h2
            generalize decB n = t at *
            clear h0 hst HE h2
            go_wp2_with (go_at_call 49; refine (HNUM.out _).mono ?_; rintro e w6 ⟨rfl, rfl⟩)
            go_ret
            exact ⟨by rw [HN.out]; first | done | rfl, rfl⟩
end Go.Proofs.YtboehlffbibgmaaDoor
