import Derived.Test.YtiebdhbioccogaaGreatDoorShwP
import Derived.Test.YtiebdhbioccogaaGreatDoorBaseB
import Derived.Test.YtiebdhbioccogaaGreatDoorCel
import Derived.Test.YtiebdhbioccogaaGreatDoorBaseQ
import Derived.Test.YtiebdhbioccogaaGreatDoorBaseS
import Derived.Test.YtiebdhbioccogaaGreatDoorAlgS
import Derived.Test.YtiebdhbioccogaaGreatDoorBaseD
import Derived.Test.YtiebdhbioccogaaGreatDoorBaseC
namespace Go.Proofs.YtiebdhbioccogaaGreatDoor
open Go.RowKit
set_option linter.unusedVariables false
set_option linter.unusedSimpArgs false
set_option maxRecDepth 100000

set_option maxHeartbeats 4000000 in
theorem number_small (n : Nat) (h : n < 10) (w : World) : Calls Tryz.prog 33 #[.int .i64 n] w fun e w' => e = .returned (.string (decB n)) ∧ w = w' := by
  have hn : n = 0 ∨ n = 1 ∨ n = 2 ∨ n = 3 ∨ n = 4 ∨ n = 5 ∨ n = 6 ∨ n = 7 ∨ n = 8 ∨ n = 9 := by omega
  rw [decB_small h]
  clear h
  rcases hn with rfl | rfl | rfl | rfl | rfl | rfl | rfl | rfl | rfl | rfl
  all_goals
    go_enter Tryz.func33, Tryz.ntmps33
    go_wp2
    go_ret
    exact ⟨rfl, rfl⟩
set_option maxHeartbeats 4000000 in
theorem number_any : ∀ (n : Nat) (z : Int) (w : World), z = n → n ≤ 1000000 → Calls Tryz.prog 33 #[.int .i64 z] w fun e w' => e = .returned (.string (decB n)) ∧ w = w' := by
  intro n
  induction n using Nat.strongRecOn with
  | _ n ih =>
    intro z w hz hn
    subst hz
    by_cases h : n < 10
    · exact number_small n h w
    · have h1 : ¬ (n : Int) < 10 := by omega
      have H1 := Lib.hid (ih (n / 10) (by omega))
      have HE := Lib.hid (decB_big h)
      have hr : n % 10 < 10 := by omega
      have s1 : (decB (n / 10)).size ≤ 8 := decB_size 7 _ (by omega)
      have s2 : (decB (n % 10)).size ≤ 8 := decB_size 7 _ (by omega)
      clear ih
      go_enter Tryz.func33, Tryz.ntmps33
      go_wp2_with fail
      refine (H1.out _ _ (by go_num) (by omega)).mono ?_
      rintro e w1 ⟨rfl, rfl⟩
      have h2 := number_small (n % 10) hr w
      go_wp2_with fail
      refine (by have h3 := h2; have e3 : ((n % 10 : Nat) : Int) = ((n : Int).tmod 10) := by go_num
                 first | exact h3 | (rw [e3] at h3; exact h3) : Calls _ _ _ _ fun e w' => e = .returned (.string (decB (n % 10))) ∧ w = w').mono ?_
      rintro e w1 ⟨rfl, rfl⟩
      go_wp2
      go_ret
      rw [HE.out]
      exact ⟨rfl, rfl⟩

end Go.Proofs.YtiebdhbioccogaaGreatDoor

namespace Go.Proofs.YtiebdhbioccogaaGreatDoor
open Go.RowKit
set_option linter.unusedVariables false
set_option linter.unusedSimpArgs false
set_option maxRecDepth 100000

theorem one_Sv (xs : List ByteArray) : ∀ u ∈ xs.flatMap encS, u.oneCell' = true := by
  intro u hu
  obtain ⟨s, _, h⟩ := List.mem_flatMap.1 hu
  rw [List.mem_singleton.1 h]; rfl
theorem flatS_enc (ws : List ByteArray) : ws.flatMap encS = flatS ws := by
  induction ws with
  | nil => rfl
  | cons s r ih => rw [List.flatMap_cons, ih]; rfl
theorem SS.slv {w : World} {B n c : Nat} {A : Option Addr} {ss : List ByteArray} (h : SS w B A n c ss) : SL encS 1 w B A n c ss := ⟨h.rd, h.len, h.cap, h.max⟩

set_option maxHeartbeats 4000000 in
theorem joinWith_any (ss : List ByteArray) (sep : ByteArray) (A : Option Addr) (n c : Nat) (w : World) (hr : SS w w.heap.size A n c ss) (T : Nat) (hT : ∀ k, k ≤ ss.length → (joinW (ss.take k) sep).size ≤ T) (hS : ∀ s ∈ ss, s.size ≤ T) (hsep : sep.size ≤ T) (hb : T ≤ 1000000000000) :
    Calls Tryz.prog 61 #[.slice A n c, .string sep] w fun e w' => e = .returned (.string (joinW ss sep)) ∧ w = w' := by
  obtain rfl := hr.len
  have hl := hr.max
  have hl2 := hr.cap
  unfold maxLen at hl
  have HR := Lib.hid hr
  have HT := Lib.hid hT
  have HS := Lib.hid hS
  clear hr hT hS
  go_enter Tryz.func61, Tryz.ntmps61
  go_wp2
  go_loop [5, 6] (fun s i => ∃ (k : Nat) (t : ByteArray), k ≤ ss.length ∧ i = .int .i64 k ∧ s = .string t ∧ t.size ≤ T ∧ Hid (t = joinW (ss.take k) sep)) (fun _ i => ss.length - (intOf i).toNat)
  case atStart => exact ⟨0, ⟨#[]⟩, Nat.zero_le _, rfl, rfl, Nat.zero_le _, Lib.hid rfl⟩
  case round =>
    obtain ⟨k, t, hk, rfl, rfl, ht, heq⟩ := hrel
    by_cases hlt : k < ss.length
    · obtain ⟨b, o, rfl, hbb, x1⟩ := HR.out.at_ hlt
      have HE := Lib.hid (joinW_step ss sep k hlt)
      have hsz := HS.out _ (List.getElem_mem hlt)
      have HZ := Lib.hid (HT.out (k + 1) (by omega))
      generalize ss[k] = u at *
      have hi1 : (k : Int) < (ss.length : Int) := by omega
      have hi0 : (0 : Int) ≤ (k : Int) := by omega
      by_cases h0 : 0 < k
      · have h01 : (0 : Int) < (k : Int) := by omega
        have HN : Hid ((t ++ sep) ++ u = joinW (ss.take (k + 1)) sep) := Lib.hid (by rw [HE.out, if_neg (by omega), heq.out])
        have hz2 : (t ++ sep).size ≤ 2 * T := by rw [ByteArray.size_append]; omega
        clear h0
        go_wp2
        go_round
        case rel => exact ⟨k + 1, _, by omega, by go_num, rfl, by rw [HN.out]; exact HZ.out, HN⟩
        case measure => simp [intOf]; omega
      · have h01 : ¬ (0 : Int) < (k : Int) := by omega
        have HN : Hid (t ++ u = joinW (ss.take (k + 1)) sep) := Lib.hid (by rw [HE.out, if_pos (by omega), heq.out])
        clear h0
        go_wp2
        go_round
        case rel => exact ⟨k + 1, _, by omega, by go_num, rfl, by rw [HN.out]; exact HZ.out, HN⟩
        case measure => simp [intOf]; omega
    · obtain rfl : k = ss.length := by omega
      have hi9 : ¬ (ss.length : Int) < (ss.length : Int) := by omega
      go_wp2
      go_ret
      refine ⟨?_, rfl⟩
      rw [heq.out, List.take_of_length_le (Nat.le_refl _)]
      rfl

set_option maxHeartbeats 4000000 in
theorem zeroText_any (ds : List D) (A : Option Addr) (n c : Nat) (w : World) (hr : SD w w.heap.size A n c ds) :
    Calls Tryz.prog 109 #[.slice A n c] w fun e w' => e = .returned (.string (zeroT ds)) ∧ w = w' := by
  obtain rfl := hr.len
  have hl := hr.max
  have hl2 := hr.cap
  unfold maxLen at hl
  have HR := Lib.hid hr
  rcases fidx_cases (isVal 0) ds with ⟨hx, hno⟩ | ⟨k, hk, hx, hp, hno⟩
  · have HX := Lib.hid hx
    have HM := Lib.hid (zeroT_no (ds := ds) (by omega))
    clear hx hno hr
    go_enter Tryz.func109, Tryz.ntmps109
    go_wp2_with (go_at_call 136; refine (valueAt_v ds 0 _ _ _ _ HR.out HX.out).mono ?_; rintro e w' ⟨rfl, rfl⟩)
    go_ret
    rw [HM.out]
    exact ⟨rfl, rfl⟩
  · have HX := Lib.hid hx
    have HM := Lib.hid (zeroT_yes hk hx)
    have hi1 : (k : Int) < (ds.length : Int) := by omega
    obtain ⟨b, o, rfl, hbb, d1, d2⟩ := hr.at_ hk
    clear hx hno hr hp
    go_enter Tryz.func109, Tryz.ntmps109
    go_wp2_with (go_at_call 136; refine (valueAt_v ds 0 _ _ _ _ HR.out HX.out).mono ?_; rintro e w' ⟨rfl, rfl⟩)
    go_ret
    rw [HM.out]
    exact ⟨rfl, rfl⟩

set_option maxHeartbeats 8000000 in
theorem withRest_any (ds : List D) (ws : List ByteArray) (r : Nat) (A : Option Addr) (n c : Nat) (As : Option Addr) (q cs : Nat) (w : World) (hr : SD w w.heap.size A n c ds) (hs : SS w w.heap.size As q cs ws) (hr4 : r < 4096) (hS : ∀ s ∈ ws, s.size ≤ 8) (hl : ws.length ≤ 100) :
    Calls Tryz.prog 71 #[.slice A n c, .slice As q cs, .int .i64 r] w fun e w' => e = .returned (.string (textW ds (ws ++ restW r))) ∧ Below w.heap.size w w' := by
  obtain rfl := hs.len
  have hmx := hs.max
  have hcp := hs.cap
  unfold maxLen at hmx
  have HR := Lib.hid hr
  have HSW := Lib.hid hs
  have HS8 := Lib.hid hS
  clear hr hs hS
  by_cases h0 : 0 < r
  · have h01 : (0 : Int) < (r : Int) := by omega
    have HRW : Hid (restW r = [decB r]) := Lib.hid (by unfold restW; rw [if_neg (by omega)])
    have hz8 : (decB r).size ≤ 8 := decB_size 7 r (by omega)
    obtain ⟨t, ht⟩ : ∃ t, decB r = t := ⟨_, rfl⟩
    rw [ht] at HRW hz8
    have HTD := Lib.hid ht
    have HM0 : Hid ((w.alloc (.cells #[] 9)).ownsRow w.heap.size 9 1 (.slice (some ⟨w.heap.size, 0, none⟩) 0 0) 0 []) := Lib.hid (World.ownsRow_made w #[] 0 (Nat.le_refl _) (by unfold maxLen; omega) rfl)
    have hbA : Below w.heap.size w (w.alloc (.cells #[] 9)) := (Below.refl _ _).alloc (Nat.le_refl _) _
    have HSL := Lib.hid (HSW.out.below hbA)
    have HBA := Lib.hid hbA
    obtain ⟨i0, hi, hz0, hz1, hz2⟩ := info_parts info_S
    have HI0 := Lib.hid (And.intro hi (And.intro hz0 (And.intro hz1 hz2)))
    clear hi hz0 hz1 hz2 ht hbA h0
    go_enter Tryz.func71, Tryz.ntmps71
    have HNUM : Hid (∀ w, Calls Tryz.prog 33 #[.int .i64 (r : Int)] w fun e w' => e = .returned (.string t) ∧ w = w') := Lib.hid (fun w => by rw [← HTD.out]; exact number_any r _ w rfl (by omega))
    go_wp2_with (first
      | (go_at_call 33; refine (HNUM.out _).mono ?_; rintro e w6 ⟨rfl, rfl⟩)
      | (at_builtin; refine wpList_app_S rfl _ _ rfl w.heap.size _ _ _ rfl HO5.out _ _ _ rfl rfl (by omega) HB5.out.size ?_; intro v' w6 ho6 hb6; obtain ⟨A6, c6, rfl⟩ := own_form ho6; have HO6 := Lib.hid ho6; have HB6 : Hid (Below w.heap.size w w6) := Lib.hid (HB5.out.trans hb6); clear ho6 hb6)
      | (at_builtin; refine wpList_app_src rfl _ _ _ rfl w.heap.size _ i0 _ 1 16 Tryz.underlying22 HI0.out rfl (by omega) (by omega) _ 0 _ rfl HM0.out _ _ _ _ rfl (HSL.out.slv.src (fun _ => rfl)) (one_Sv _) (by omega) (by simp) ?_; intro v' w5 ho5 hg5; rw [Nat.zero_add, List.nil_append] at ho5; obtain ⟨A5, c5, rfl⟩ := own_form ho5; have HO5 := Lib.hid ho5; have HB5 : Hid (Below w.heap.size w w5) := Lib.hid (HBA.out.grown hg5 (by simp) (fun q hq => (HM0.out.lt q hq).1)); clear ho5 hg5))
    have HNE : Hid (ws ++ [t] ≠ []) := Lib.hid (by intro e; have := congrArg List.length e; simp at this)
    have HSS : Hid (SS w6 w6.heap.size A6 (ws.length + 1) c6 (ws ++ [t])) := Lib.hid (by
      have h := HO6.out
      have e : (ws.flatMap encS ++ [.string t] : List Value) = flatS (ws ++ [t]) := by rw [flatS_enc]; unfold flatS; rw [List.map_append]; rfl
      rw [e] at h
      exact ss_of_own h (fun s hs => by
        rcases List.mem_append.1 hs with h | h
        · have := HS8.out s h; unfold maxLen; omega
        · rw [List.mem_singleton.1 h]; unfold maxLen; omega))
    have HS9 : Hid (∀ s ∈ ws ++ [t], s.size ≤ 8) := Lib.hid (fun s hs => by
      rcases List.mem_append.1 hs with h | h
      · exact HS8.out s h
      · rw [List.mem_singleton.1 h]; exact hz8)
    go_wp2_with fail
    refine (joinWith_any (ws ++ [t]) bar _ _ _ _ HSS.out 1000 (fun k hk => ?_) (fun s hs => by have := HS9.out s hs; omega) (by decide) (by omega)).mono ?_
    · have h1 := joinW_size (sep := bar) HS9.out k hk
      have h2 : bar.size = 1 := rfl
      rw [h2] at h1
      rw [List.length_append, List.length_singleton] at hk
      omega
    rintro e w7 ⟨rfl, rfl⟩
    go_wp2
    go_ret
    rw [HRW.out]
    unfold textW
    rw [if_neg HNE.out]
    exact ⟨rfl, HB6.out⟩
  · have h01 : ¬ (0 : Int) < (r : Int) := by omega
    have HRW : Hid (ws ++ restW r = ws) := Lib.hid (by unfold restW; rw [if_pos (by omega), List.append_nil])
    clear h0
    rw [HRW.out]
    by_cases hw0 : ws = []
    · subst hw0
      go_enter Tryz.func71, Tryz.ntmps71
      go_wp2_with (go_at_call 109; refine (zeroText_any ds _ _ _ _ HR.out).mono ?_; rintro e w' ⟨rfl, rfl⟩)
      go_ret
      unfold textW
      rw [if_pos rfl]
      exact ⟨rfl, Below.refl _ _⟩
    · have HNE := Lib.hid hw0
      have hl0 : ((ws.length : Int) == 0) = false := by
        rw [beq_eq_false_iff_ne]
        intro e
        exact hw0 (List.eq_nil_of_length_eq_zero (by omega))
      clear hw0
      go_enter Tryz.func71, Tryz.ntmps71
      go_wp2_with fail
      refine (joinWith_any ws bar _ _ _ _ HSW.out 1000 (fun k hk => ?_) (fun s hs => by have := HS8.out s hs; omega) (by decide) (by omega)).mono ?_
      · have h1 := joinW_size (sep := bar) HS8.out k hk
        have h2 : bar.size = 1 := rfl
        rw [h2] at h1
        omega
      rintro e w7 ⟨rfl, rfl⟩
      go_wp2
      go_ret
      unfold textW
      rw [if_neg HNE.out]
      exact ⟨rfl, Below.refl _ _⟩
end Go.Proofs.YtiebdhbioccogaaGreatDoor

namespace Go.Proofs.YtiebdhbioccogaaGreatDoor
open Go.RowKit
set_option linter.unusedVariables false
set_option linter.unusedSimpArgs false
set_option maxRecDepth 100000

theorem seven_cell {w : World} {b o : Nat} {s : ByteArray} (h : w.cell? ⟨b, o, none⟩ = some (.string s)) : w.cell? ⟨b, o, none⟩ = some (.string s) := h

/-! ### the model's reading of texts -/
set_option maxHeartbeats 4000000 in
theorem splitAt_any (s : ByteArray) (c : UInt8) (x : Nat) (hx : c.toNat = x) (w : World) (hs : s.size ≤ 1048576) :
    Calls Tryz.prog 28 #[.string s, .int .u8 (x : Int)] w (StrsP (splitT c s) w) := by
  go_enter Tryz.func28, Tryz.ntmps28
  go_wp2
  have H0 : Hid (Below w.heap.size w (w.alloc (.cells #[] 9))) := Lib.hid ((Below.refl _ _).alloc (Nat.le_refl _) _)
  have H1 : Hid ((w.alloc (.cells #[] 9)).ownsRow w.heap.size 9 1 (.slice (some ⟨w.heap.size, 0, none⟩) 0 0) 0 (flatS [])) := Lib.hid (World.ownsRow_made w #[] 0 (Nat.le_refl _) (by unfold maxLen; omega) rfl)
  have HX := Lib.hid hx
  have HZ : Hid (splSt c s [] 0 0) := Lib.hid (spl_zero c s)
  clear hx
  go_loopw [5, 6, 7] (fun v j i wr => ∃ (done : List ByteArray) (q k : Nat), k ≤ s.size ∧ q ≤ k ∧ done.length ≤ q ∧ j = .int .i64 q ∧ i = .int .i64 k ∧ Hid (splSt c s done q k) ∧ Hid (wr.ownsRow w.heap.size 9 1 v done.length (flatS done)) ∧ Hid (Below w.heap.size w wr)) (fun _ _ i _ => s.size - (intOf i).toNat)
  case atStart => exact ⟨[], 0, 0, Nat.zero_le _, Nat.le_refl _, Nat.le_refl _, rfl, rfl, HZ, H1, H0⟩
  case round =>
    clear H0 H1 HZ
    obtain ⟨done, q, k, hk, hq, hd, rfl, rfl, hst, hown, hbel⟩ := hrel
    by_cases hlt : k < s.size
    · have hi1 : (k : Int) < (s.size : Int) := by omega
      have hi0 : (0 : Int) ≤ (k : Int) := by omega
      by_cases he : s[k] = c
      · have e1 : ((s[k].toNat : Int) == (x : Int)) = true := by rw [he, HX.out, beq_self_eq_true]
        have HST := Lib.hid (spl_hit hlt he hst.out)
        have HF : Hid (flatS (done ++ [s.extract q k]) = flatS done ++ [.string (s.extract q k)]) := Lib.hid (by unfold flatS; rw [List.map_append]; rfl)
        have hqk : (q : Int) ≤ (k : Int) := by omega
        have hks : (k : Int) ≤ (s.size : Int) := by omega
        have hq0 : (0 : Int) ≤ (q : Int) := by omega
        clear he
        go_wp2_with (at_builtin; refine wpList_app_S rfl _ _ rfl w.heap.size _ _ _ rfl hown.out _ _ _ rfl (by first | rfl | simp) (by omega) hbel.out.size ?_; intro v' w1 ho1 hb1; have HO1 := Lib.hid ho1; have HB1 := Lib.hid hb1; clear ho1 hb1)
        go_roundw
        case rel => exact ⟨done ++ [s.extract q k], k + 1, k + 1, by omega, Nat.le_refl _, by rw [List.length_append, List.length_singleton]; omega, by go_num, by go_num, HST, Lib.hid (by rw [HF.out, List.length_append, List.length_singleton]; exact HO1.out), Lib.hid (hbel.out.trans HB1.out)⟩
        case measure => simp [intOf]; omega
      · have e1 : ((s[k].toNat : Int) == (x : Int)) = false := by
          rw [beq_eq_false_iff_ne]
          intro e
          have h2 := HX.out
          exact he (UInt8.toNat_inj.1 (by omega))
        have HST := Lib.hid (spl_miss hq hlt he hst.out)
        clear he
        go_wp2
        go_roundw
        case rel => exact ⟨done, q, k + 1, by omega, by omega, hd, rfl, by go_num, HST, hown, hbel⟩
        case measure => simp [intOf]; omega
    · obtain rfl : k = s.size := by omega
      have hi9 : ¬ (s.size : Int) < (s.size : Int) := by omega
      have HE := Lib.hid (spl_end hst.out)
      have HF : Hid (flatS (done ++ [s.extract q s.size]) = flatS done ++ [.string (s.extract q s.size)]) := Lib.hid (by unfold flatS; rw [List.map_append]; rfl)
      have hqk : (q : Int) ≤ (s.size : Int) := by omega
      have hq0 : (0 : Int) ≤ (q : Int) := by omega
      go_wp2_with (at_builtin; refine wpList_app_S rfl _ _ rfl w.heap.size _ _ _ rfl hown.out _ _ _ rfl (by first | rfl | simp) (by omega) hbel.out.size ?_; intro v' w1 ho1 hb1; have HO1 := Lib.hid ho1; have HB1 := Lib.hid hb1; clear ho1 hb1)
      go_ret
      obtain ⟨A', c', hv⟩ := own_form HO1.out
      subst hv
      rw [HE.out]
      exact ⟨A', c', by rw [List.length_append, List.length_singleton]; first | done | rfl, by rw [HF.out, List.length_append, List.length_singleton]; exact HO1.out, hbel.out.trans HB1.out⟩

set_option maxHeartbeats 4000000 in
theorem specRdN_any (s : ByteArray) (w : World) (hs : s.size ≤ 1048576) :
    Calls Tryz.prog 66 #[.string s] w fun e w' => e = .returned (.int .i64 (mRdN s)) ∧ w = w' := by
  have HZ : Hid (rdSt s 0 0) := Lib.hid rfl
  obtain ⟨v, hv⟩ : ∃ v, mRdN s = v := ⟨_, rfl⟩
  have HV := Lib.hid hv
  rw [hv]
  clear hv
  go_enter Tryz.func66, Tryz.ntmps66
  go_wp2
  go_loop [3, 4] (fun m i => ∃ (k n : Nat), k ≤ s.size ∧ n ≤ 40959 ∧ m = .int .i64 n ∧ i = .int .i64 k ∧ Hid (rdSt s k n)) (fun _ i => s.size - (intOf i).toNat)
  case atStart => exact ⟨0, 0, Nat.zero_le _, Nat.zero_le _, rfl, rfl, HZ⟩
  case round =>
    clear HZ
    obtain ⟨k, n, hk, hn, rfl, rfl, hst⟩ := hrel
    by_cases hlt : k < s.size
    · have hi1 : (k : Int) < (s.size : Int) := by omega
      have hi0 : (0 : Int) ≤ (k : Int) := by omega
      by_cases h1 : (s[k].toNat : Int) < 48
      · have HN := Lib.hid (rd_no hlt (.inl (by omega)) hst.out)
        go_wp2
        go_ret
        exact ⟨by rw [← HV.out, HN.out]; first | done | rfl, rfl⟩
      · by_cases h2 : (57 : Int) < (s[k].toNat : Int)
        · have HN := Lib.hid (rd_no hlt (.inr (.inl (by omega))) hst.out)
          go_wp2
          go_ret
          exact ⟨by rw [← HV.out, HN.out]; first | done | rfl, rfl⟩
        · by_cases h3 : (4095 : Int) < (n : Int)
          · have HN := Lib.hid (rd_no hlt (.inr (.inr (by omega))) hst.out)
            go_wp2
            go_ret
            exact ⟨by rw [← HV.out, HN.out]; first | done | rfl, rfl⟩
          · have HS := Lib.hid (rd_step hlt (by omega) (by omega) (by omega) hst.out)
            have hw1 : IntKind.u8.wrap ((s[k].toNat : Int) - 48) = ((s[k].toNat - 48 : Nat) : Int) := by
              have hlt2 := s[k].toNat_lt
              rw [show (s[k].toNat : Int) - 48 = ((s[k].toNat - 48 : Nat) : Int) by omega]
              rw [IntKind.wrap_u8]; omega
            have hw2 : IntKind.i64.wrap ((s[k].toNat - 48 : Nat) : Int) = ((s[k].toNat - 48 : Nat) : Int) := by rw [IntKind.wrap_i64]; omega
            have hd9 : s[k].toNat - 48 ≤ 9 := by omega
            generalize hdd : s[k].toNat - 48 = d at *
            clear hdd
            go_wp2
            go_round
            case rel => exact ⟨k + 1, 10 * n + d, by omega, by omega, by go_num, by go_num, HS⟩
            case measure => simp [intOf]; omega
    · obtain rfl : k = s.size := by omega
      have hi9 : ¬ (s.size : Int) < (s.size : Int) := by omega
      have HE := Lib.hid (rd_end hst.out)
      by_cases h0 : s.size = 0
      · have es : s = ⟨#[]⟩ := ByteArray.ext (Array.eq_empty_of_size_eq_zero h0)
        subst es
        have HN : Hid (v = -1) := Lib.hid (by rw [← HV.out, HE.out, if_neg (fun h => h.1 h0)])
        clear h0 hst HE
        go_wp2
        go_ret
        exact ⟨by rw [HN.out]; first | done | rfl, rfl⟩
      · have e0 : (s.toList == ([] : List UInt8)) = false := by
          rw [beq_eq_false_iff_ne]
          intro e
          rw [Go.ByteArray.toList_eq] at e
          have h2 := congrArg List.length e
          rw [Array.length_toList] at h2
          exact h0 h2
        by_cases h1 : (4096 : Int) < (n : Int)
        · have HN : Hid (v = -1) := Lib.hid (by rw [← HV.out, HE.out, if_neg (fun h => by have := h.2.1; omega)])
          clear h0 hst HE
          go_wp2
          go_ret
          exact ⟨by rw [HN.out]; first | done | rfl, rfl⟩
        · have HNUM := Lib.hid (fun w => number_any n n w rfl (by omega))
          by_cases h2 : decB n = s
          · have HN : Hid (v = n) := Lib.hid (by rw [← HV.out, HE.out, if_pos ⟨h0, by omega, h2⟩])
            have e2 : ((decB n).toList == s.toList) = true := nm_true h2
            generalize decB n = t at *
            clear h0 hst HE h2
            go_wp2_with (go_at_call 33; refine (HNUM.out _).mono ?_; rintro e w6 ⟨rfl, rfl⟩)
            go_ret
            exact ⟨by rw [HN.out]; first | done | rfl, rfl⟩
          · have HN : Hid (v = -1) := Lib.hid (by rw [← HV.out, HE.out, if_neg (fun h => h2 h.2.2)])
            have e2 : ((decB n).toList == s.toList) = false := nm_false h2
            generalize decB n = t at *
            clear h0 hst HE h2
            go_wp2_with (go_at_call 33; refine (HNUM.out _).mono ?_; rintro e w6 ⟨rfl, rfl⟩)
            go_ret
            exact ⟨by rw [HN.out]; first | done | rfl, rfl⟩
end Go.Proofs.YtiebdhbioccogaaGreatDoor

namespace Go.Proofs.YtiebdhbioccogaaGreatDoor
open Go.RowKit
set_option linter.unusedVariables false
set_option linter.unusedSimpArgs false
set_option maxRecDepth 100000

/-! ### what is read so far -/
def rdAt (ds : List D) (ws : List ByteArray) (k o : Nat) : Prop := (o < 4096 ∧ rdTo ds ws 0 = rdTo ds (ws.drop k) o) ∨ (4096 ≤ o ∧ rdTo ds ws 0 = none)
theorem rdAt_zero (ds : List D) (ws : List ByteArray) : rdAt ds ws 0 0 := .inl ⟨by decide, rfl⟩
theorem rdAt_bad {ds : List D} {ws : List ByteArray} {k o : Nat} (hk : k < ws.length) (h : rdAt ds ws k o) (hn : ¬ (0 ≤ partV ds ws[k] ∧ partV ds ws[k] ≤ 4095)) : rdTo ds ws 0 = none := by
  rcases h with ⟨_, h⟩ | ⟨_, h⟩
  · rw [h, List.drop_eq_getElem_cons hk, rdTo, if_neg hn]
  · exact h
theorem rdAt_step {ds : List D} {ws : List ByteArray} {k o n : Nat} (hk : k < ws.length) (h : rdAt ds ws k o) (hn : partV ds ws[k] = n) (hn2 : n ≤ 4096) : rdAt ds ws (k + 1) (o + n - (o &&& n) % 4096) := by
  have h1 : (o &&& n) % 4096 ≤ o := Nat.le_trans (Nat.mod_le _ _) (and_le o n)
  have h2 : (o &&& n) % 4096 ≤ n := Nat.le_trans (Nat.mod_le _ _) (by rw [Nat.and_comm]; exact and_le n o)
  by_cases hn4 : n ≤ 4095
  · rcases h with ⟨ho, h⟩ | ⟨ho, h⟩
    · have h3 := and_lt (b := n) ho
      have h4 := or_add_and o n
      have h5 : (o &&& n) % 4096 = o &&& n := Nat.mod_eq_of_lt h3
      have h6 : o + n - (o &&& n) % 4096 = o ||| n := by rw [h5]; omega
      rw [h6]
      refine .inl ⟨or_lt ho (by omega), ?_⟩
      rw [h, List.drop_eq_getElem_cons hk, rdTo, if_pos ⟨by omega, by omega⟩, hn, Int.toNat_natCast]
    · exact .inr ⟨by omega, h⟩
  · have h3 := rdAt_bad hk h (by omega)
    exact .inr ⟨by omega, h3⟩
theorem rdAt_end {ds : List D} {ws : List ByteArray} {b : Int} {s : ByteArray} {o : Nat} (hs : splitT 124 s = ws) (h : rdAt ds ws ws.length o) : rdV ds b s = if mIsV ds b (o : Int) then (o : Int) else -1 := by
  subst hs
  rcases h with ⟨ho, h⟩ | ⟨ho, h⟩
  · rw [List.drop_eq_nil_of_le (Nat.le_refl _), rdTo] at h
    exact rdV_some h
  · rw [rdV_none h, if_neg]
    intro hh
    obtain ⟨p, e, hp⟩ := mIsV_nat hh
    omega

/-! ### the model's both and either, of numbers of any size -/
set_option maxHeartbeats 1000000 in
theorem bothG_any (a b : Nat) (w : World) (ha : a ≤ 1099511627776) (hb : b ≤ 4096) {v : Nat} (hv : (a &&& b) % 4096 = v) :
    Calls Tryz.prog 38 #[.int .i64 a, .int .i64 b] w fun e w' => e = .returned (.int .i64 v) ∧ w = w' := by
  subst hv
  go_enter Tryz.func38, Tryz.ntmps38
  go_wp2
  go_loop [5, 6] (fun s i => ∃ (k p q : Nat), k ≤ 12 ∧ 1 ≤ p ∧ p ≤ 4096 ∧ q ≤ 4096 ∧ i = .int .i64 p ∧ s = .int .i64 q ∧ Hid (p = 2 ^ k) ∧ Hid (q = (a &&& b) % 2 ^ k)) (fun _ i => 4096 - (intOf i).toNat)
  case atStart => exact ⟨0, 1, 0, by omega, by omega, by omega, by omega, rfl, rfl, Lib.hid rfl, Lib.hid (by simp [Nat.mod_one])⟩
  case round =>
    obtain ⟨k, p, q, hk, hp1, hp2, hq1, rfl, rfl, hp, hq⟩ := hrel
    by_cases h12 : k < 12
    · have hp3 : p ≤ 2048 := by rw [hp.out]; exact Nat.pow_le_pow_right (n := 2) (by decide) (show k ≤ 11 by omega)
      have HS := Lib.hid (both_succ a b k)
      have HP2 : Hid (p * 2 = 2 ^ (k + 1)) := Lib.hid (by rw [hp.out, Nat.pow_succ])
      have hql : q + p ≤ 4096 := by
        have := Nat.mod_lt (a &&& b) (show 0 < 2 ^ k from Nat.two_pow_pos k)
        rw [hq.out]; have := hp.out; omega
      obtain ⟨x, hx⟩ : ∃ x : Nat, a / p = x := ⟨_, rfl⟩
      obtain ⟨y, hy⟩ : ∃ y : Nat, b / p = y := ⟨_, rfl⟩
      have hxl : x ≤ 1099511627776 := by have := Nat.div_le_self a p; omega
      have hyl : y ≤ 4096 := by have := Nat.div_le_self b p; omega
      have dx : (a : Int) / (p : Int) = (x : Int) := by rw [← hx]; push_cast; rfl
      have dy : (b : Int) / (p : Int) = (y : Int) := by rw [← hy]; push_cast; rfl
      rw [← hp.out, hx, hy] at HS
      have HS' := Lib.hid HS.out
      have HQ0 : Hid (q = (a &&& b) % p) := Lib.hid (by rw [hp.out]; exact hq.out)
      clear hx hy HS
      by_cases ha1 : x % 2 = 1
      · have e1 : ((x : Int) % 2 == 1) = true := by rw [beq_iff_eq]; omega
        by_cases hb1 : y % 2 = 1
        · have e2 : ((y : Int) % 2 == 1) = true := by rw [beq_iff_eq]; omega
          have HQ : Hid (q + p = (a &&& b) % 2 ^ (k + 1)) := Lib.hid (by rw [HS'.out, if_pos ⟨ha1, hb1⟩, ← HQ0.out])
          clear ha1 hb1
          go_wp2
          go_round
          case rel => exact ⟨k + 1, p * 2, q + p, by omega, by omega, by omega, by omega, by go_num, by go_num, HP2, HQ⟩
          case measure => simp [intOf]; omega
        · have e2 : ((y : Int) % 2 == 1) = false := by rw [beq_eq_false_iff_ne]; omega
          have HQ : Hid (q = (a &&& b) % 2 ^ (k + 1)) := Lib.hid (by rw [HS'.out, if_neg (fun h => hb1 h.2), ← HQ0.out]; rfl)
          clear ha1 hb1
          go_wp2
          go_round
          case rel => exact ⟨k + 1, p * 2, q, by omega, by omega, by omega, by omega, by go_num, rfl, HP2, HQ⟩
          case measure => simp [intOf]; omega
      · have e1 : ((x : Int) % 2 == 1) = false := by rw [beq_eq_false_iff_ne]; omega
        have HQ : Hid (q = (a &&& b) % 2 ^ (k + 1)) := Lib.hid (by rw [HS'.out, if_neg (fun h => ha1 h.1), ← HQ0.out]; rfl)
        clear ha1
        go_wp2
        go_round
        case rel => exact ⟨k + 1, p * 2, q, by omega, by omega, by omega, by omega, by go_num, rfl, HP2, HQ⟩
        case measure => simp [intOf]; omega
    · obtain rfl : k = 12 := by omega
      have hp4 : p = 4096 := hp.out
      have hp5 : (4095 : Int) < (p : Int) := by omega
      have HQ : Hid (q = (a &&& b) % 4096) := Lib.hid hq.out
      clear hp4
      go_wp2
      go_ret
      exact ⟨by rw [HQ.out]; first | done | rfl, rfl⟩
set_option maxHeartbeats 400000 in
theorem eitherG_any (a b : Nat) (w : World) (ha : a ≤ 1099511627776) (hb : b ≤ 4096) {v : Nat} (hv : a + b - (a &&& b) % 4096 = v) :
    Calls Tryz.prog 37 #[.int .i64 a, .int .i64 b] w fun e w' => e = .returned (.int .i64 v) ∧ w = w' := by
  have hle : (a &&& b) % 4096 ≤ a := Nat.le_trans (Nat.mod_le _ _) (and_le a b)
  obtain ⟨x, hx⟩ : ∃ x, (a &&& b) % 4096 = x := ⟨_, rfl⟩
  have HX := Lib.hid hx
  rw [hx] at hv hle
  have HV : Hid ((a : Int) + (b : Int) - (x : Int) = (v : Int)) := Lib.hid (by omega)
  clear hx hv
  go_enter Tryz.func37, Tryz.ntmps37
  go_wp2_with (go_at_call 38; refine (bothG_any a b _ ha hb HX.out).mono ?_; rintro e w' ⟨rfl, rfl⟩)
  go_ret
  exact ⟨by rw [HV.out]; first | done | rfl, rfl⟩

set_option maxHeartbeats 1000000 in
theorem readPart_any (ds : List D) (s : ByteArray) (A : Option Addr) (n c : Nat) (w : World) (hr : SD w w.heap.size A n c ds) (hs : s.size ≤ 1048576) {v : Int} (hv : partV ds s = v) :
    Calls Tryz.prog 68 #[.slice A n c, .string s] w fun e w' => e = .returned (.int .i64 v) ∧ w = w' := by
  subst hv
  obtain rfl := hr.len
  have hl := hr.max
  have hl2 := hr.cap
  unfold maxLen at hl
  have HR := Lib.hid hr
  rcases fidx_cases (isNm s) ds with ⟨hx, _⟩ | ⟨k, hk, hx, hp, _⟩
  · have HX := Lib.hid hx
    have HM := Lib.hid (partV_num (ds := ds) (s := s) (by omega))
    have HN := Lib.hid (fun w => specRdN_any s w hs)
    clear hx hr
    rw [HM.out]
    generalize mRdN s = v at *
    go_enter Tryz.func68, Tryz.ntmps68
    go_wp2_with (first
      | (go_at_call 107; refine (indexOf_v ds s _ _ _ _ HR.out HX.out).mono ?_; rintro e w' ⟨rfl, rfl⟩)
      | (go_at_call 66; refine (HN.out _).mono ?_; rintro e w' ⟨rfl, rfl⟩))
    go_ret
    exact ⟨rfl, rfl⟩
  · have HX := Lib.hid hx
    have HM := Lib.hid (partV_name hk hx)
    have hi1 : (k : Int) < (ds.length : Int) := by omega
    obtain ⟨b, o, rfl, hbb, d1, d2⟩ := hr.at_ hk
    clear hx hr hp
    rw [HM.out]
    generalize ds[k].val = v at *
    go_enter Tryz.func68, Tryz.ntmps68
    go_wp2_with (go_at_call 107; refine (indexOf_v ds s _ _ _ _ HR.out HX.out).mono ?_; rintro e w' ⟨rfl, rfl⟩)
    go_ret
    exact ⟨rfl, rfl⟩

set_option maxHeartbeats 8000000 in
theorem specRdV_any (ds : List D) (b : Int) (s : ByteArray) (A : Option Addr) (m c : Nat) (w : World) (hr : SD w w.heap.size A m c ds) (hv : vFlag ds b = true) (hs : s.size ≤ 1048576) {v : Int} (hm : rdV ds b s = v) :
    Calls Tryz.prog 32 #[.agg #[.slice A m c, .int .i64 b], .string s] w fun e w' => e = .returned (.int .i64 v) ∧ Below w.heap.size w w' := by
  have HF := Lib.hid (FB.start hr b)
  have HIN := Lib.hid (vFlag_in hv)
  clear hr
  have HSP := Lib.hid (fun w => splitAt_any s 124 124 rfl w hs)
  unfold StrsP at HSP
  have hwl := (splitT_len 124 s).1
  have HWS : Hid (∀ x ∈ splitT 124 s, x.size ≤ 1048576) := Lib.hid fun x hx => by have := splitT_size 124 s x hx; omega
  obtain ⟨ws, hws⟩ : ∃ ws, splitT 124 s = ws := ⟨_, rfl⟩
  rw [hws] at HSP hwl HWS
  have HE : Hid (∀ o : Nat, rdAt ds ws ws.length o → v = if mIsV ds b (o : Int) then (o : Int) else -1) := Lib.hid fun o h => by rw [← hm]; exact rdAt_end hws h
  have HN : Hid (rdTo ds ws 0 = none → v = -1) := Lib.hid fun h => by rw [← hm]; exact rdV_none (by rw [hws]; exact h)
  have HOKS : Hid (∀ x ∈ ws, x.size ≤ maxLen) := Lib.hid fun x hx => by have := HWS.out x hx; unfold maxLen; omega
  clear hws hm
  have e0 := HF.out.c0
  have e1 := HF.out.c1
  go_enter Tryz.func32, Tryz.ntmps32
  go_wp2_with fail
  refine (HSP.out _).mono ?_
  rintro e w1 ⟨A1, c1, rfl, ho, hb⟩
  have HF1 := Lib.hid (HF.out.call hb)
  have HS1 := Lib.hid (ss_of_own ho HOKS.out)
  clear ho hb HF HSP e0 e1
  go_wp2_with fail
  go_loopw [6, 7] (fun o i wr => ∃ (k x : Nat), k ≤ ws.length ∧ x ≤ 4096 * k ∧ i = .int .i64 k ∧ o = .int .i64 x ∧ Hid (rdAt ds ws k x) ∧ Hid (FB w wr w.heap.size A m c ds b) ∧ Hid (SS wr wr.heap.size A1 ws.length c1 ws)) (fun _ i _ => ws.length - (intOf i).toNat)
  case atStart => exact ⟨0, 0, Nat.zero_le _, Nat.zero_le _, rfl, rfl, Lib.hid (rdAt_zero ds ws), HF1, HS1⟩
  case round =>
    clear HF1 HS1
    obtain ⟨k, x, hk, hx, rfl, rfl, hst, hf, hss⟩ := hrel
    by_cases hlt : k < ws.length
    · obtain ⟨bb, o, hA, hbb, d1⟩ := hss.out.at_ hlt
      subst hA
      have hi1 : (k : Int) < (ws.length : Int) := by omega
      have hi0 : (0 : Int) ≤ (k : Int) := by omega
      have hz := HWS.out _ (List.getElem_mem hlt)
      have hpr := partV_range HIN.out ws[k]
      have HBAD := Lib.hid (rdAt_bad hlt hst.out)
      have HSTEP := Lib.hid (fun (n : Nat) => rdAt_step (n := n) hlt hst.out)
      obtain ⟨y, hy⟩ : ∃ y, partV ds ws[k] = y := ⟨_, rfl⟩
      rw [hy] at hpr HBAD HSTEP
      have HY := Lib.hid hy
      clear hy
      generalize ws[k] = u at *
      have c0 := hf.out.c0
      go_wp2_with fail
      go_region_held3 (fun w' => w'.cell? ⟨w.heap.size, 0, none⟩ = some (.slice A m c) ∧ w'.cell? ⟨bb, o + k, none⟩ = some (.string u))
        (first | go_keep | exact ⟨c0, d1⟩)
        (first
        | (go_at_call 68; refine (readPart_any ds u _ _ _ _ (hf.out.drewN 1).sd hz HY.out).mono ?_; rintro e w2 ⟨rfl, rfl⟩))
      by_cases hneg : y < 0
      · have HNN : Hid (v = -1) := Lib.hid (HN.out (HBAD.out (by omega)))
        have HBB := Lib.hid hf.out.bel
        clear HSTEP HBAD hst
        go_wp2
        go_ret
        exact ⟨by rw [HNN.out]; first | done | rfl, below_drewN HBB.out 1⟩
      · obtain ⟨n, rfl⟩ : ∃ n : Nat, y = n := ⟨y.toNat, by omega⟩
        have hn4 : n ≤ 4096 := by omega
        obtain ⟨z, hz2⟩ : ∃ z, x + n - (x &&& n) % 4096 = z := ⟨_, rfl⟩
        have HST := Lib.hid (HSTEP.out n rfl hn4)
        rw [hz2] at HST
        have HZ := Lib.hid hz2
        have hzl : z ≤ 4096 * (k + 1) := by omega
        clear hz2 HSTEP HBAD hst
        go_wp2_with (go_at_call 37; refine (eitherG_any x n _ (by omega) hn4 HZ.out).mono ?_; rintro e w2 ⟨rfl, rfl⟩)
        go_roundw
        case rel => exact ⟨k + 1, z, by omega, hzl, by go_num, rfl, HST, Lib.hid (hf.out.drewN 1), Lib.hid (hss.out.drewN 1)⟩
        case measure => simp [intOf]; omega
    · obtain rfl : k = ws.length := by omega
      have hi9 : ¬ (ws.length : Int) < (ws.length : Int) := by omega
      have HEE := Lib.hid (HE.out x hst.out)
      obtain ⟨q, hq⟩ : ∃ q, mIsV ds b (x : Int) = q := ⟨_, rfl⟩
      rw [hq] at HEE
      have HQ := Lib.hid hq
      have c0 := hf.out.c0
      have c1' := hf.out.c1
      clear hq
      go_wp2_with fail
      refine (specIsV_v ds b x _ _ _ _ hf.out.sd HQ.out).mono ?_
      rintro e w2 ⟨rfl, hb⟩
      have HB2 := Lib.hid (hf.out.after hb)
      clear hb
      cases q
      · go_wp2
        go_ret
        exact ⟨by rw [HEE.out]; rfl, HB2.out⟩
      · go_wp2
        go_ret
        exact ⟨by rw [HEE.out]; rfl, HB2.out⟩

end Go.Proofs.YtiebdhbioccogaaGreatDoor

