import Derived.Test.YtboehlffbibgmaaDoorShvP
import Derived.Test.YtboehlffbibgmaaDoorShwS
import Derived.Test.YtboehlffbibgmaaDoorFewT
import Derived.Test.YtboehlffbibgmaaDoorAlgS
import Derived.Test.YtboehlffbibgmaaDoorBaseD
import Derived.Test.YtboehlffbibgmaaDoorBaseC
namespace Go.Proofs.YtboehlffbibgmaaDoor
open Go.RowKit
set_option linter.unusedVariables false
set_option linter.unusedSimpArgs false
set_option maxRecDepth 100000

theorem one_Sv (xs : List ByteArray) : ∀ u ∈ xs.flatMap encS, u.oneCell' = true := by
  intro u hu
  obtain ⟨s, _, h⟩ := List.mem_flatMap.1 hu
  rw [List.mem_singleton.1 h]; rfl
theorem flatS_enc (ws : List ByteArray) : ws.flatMap encS = flatS ws := by
  induction ws with
  | nil => rfl
  | cons s r ih => rw [List.flatMap_cons, ih]; rfl
theorem SS.slv {w : World} {B n c : Nat} {A : Option Addr} {ss : List ByteArray} (h : SS w B A n c ss) : SL encS 1 w B A n c ss := ⟨h.rd, h.len, h.cap, h.max⟩

set_option maxHeartbeats 4000000 in
theorem joinWith_any (ss : List ByteArray) (sep : ByteArray) (A : Option Addr) (n c : Nat) (w : World) (hr : SS w w.heap.size A n c ss) (T : Nat) (hT : ∀ k, k ≤ ss.length → (joinW (ss.take k) sep).size ≤ T) (hS : ∀ s ∈ ss, s.size ≤ T) (hsep : sep.size ≤ T) (hb : T ≤ 1000000000000) :
    Calls Tryd.prog 83 #[.slice A n c, .string sep] w fun e w' => e = .returned (.string (joinW ss sep)) ∧ w = w' := by
  obtain rfl := hr.len
  have hl := hr.max
  have hl2 := hr.cap
  unfold maxLen at hl
  have HR := Lib.hid hr
  have HT := Lib.hid hT
  have HS := Lib.hid hS
  clear hr hT hS
  go_enter Tryd.func83, Tryd.ntmps83
  go_wp2
  go_loop [5, 6] (fun s i => ∃ (k : Nat) (t : ByteArray), k ≤ ss.length ∧ i = .int .i64 k ∧ s = .string t ∧ t.size ≤ T ∧ Hid (t = joinW (ss.take k) sep)) (fun _ i => ss.length - (intOf i).toNat)
  case atStart => exact ⟨0, ⟨#[]⟩, Nat.zero_le _, rfl, rfl, Nat.zero_le _, Lib.hid rfl⟩
  case round =>
    obtain ⟨k, t, hk, rfl, rfl, ht, heq⟩ := hrel
    by_cases hlt : k < ss.length
    · obtain ⟨b, o, rfl, hbb, x1⟩ := HR.out.at_ hlt
      have HE := Lib.hid (joinW_step ss sep k hlt)
      have hsz := HS.out _ (List.getElem_mem hlt)
      have HZ := Lib.hid (HT.out (k + 1) (by omega))
      generalize ss[k] = u at *
      have hi1 : (k : Int) < (ss.length : Int) := by omega
      have hi0 : (0 : Int) ≤ (k : Int) := by omega
      by_cases h0 : 0 < k
      · have h01 : (0 : Int) < (k : Int) := by omega
        have HN : Hid ((t ++ sep) ++ u = joinW (ss.take (k + 1)) sep) := Lib.hid (by rw [HE.out, if_neg (by omega), heq.out])
        have hz2 : (t ++ sep).size ≤ 2 * T := by rw [ByteArray.size_append]; omega
        clear h0
        go_wp2
        go_round
        case rel => exact ⟨k + 1, _, by omega, by go_num, rfl, by rw [HN.out]; exact HZ.out, HN⟩
        case measure => simp [intOf]; omega
      · have h01 : ¬ (0 : Int) < (k : Int) := by omega
        have HN : Hid (t ++ u = joinW (ss.take (k + 1)) sep) := Lib.hid (by rw [HE.out, if_pos (by omega), heq.out])
        clear h0
        go_wp2
        go_round
        case rel => exact ⟨k + 1, _, by omega, by go_num, rfl, by rw [HN.out]; exact HZ.out, HN⟩
        case measure => simp [intOf]; omega
    · obtain rfl : k = ss.length := by omega
      have hi9 : ¬ (ss.length : Int) < (ss.length : Int) := by omega
      go_wp2
      go_ret
      refine ⟨?_, rfl⟩
      rw [heq.out, List.take_of_length_le (Nat.le_refl _)]
      rfl

set_option maxHeartbeats 4000000 in
theorem zeroText_any (ds : List D) (A : Option Addr) (n c : Nat) (w : World) (hr : SD w w.heap.size A n c ds) :
    Calls Tryd.prog 82 #[.slice A n c] w fun e w' => e = .returned (.string (zeroT ds)) ∧ w = w' := by
  obtain rfl := hr.len
  have hl := hr.max
  have hl2 := hr.cap
  unfold maxLen at hl
  have HR := Lib.hid hr
  rcases fidx_cases (isVal 0) ds with ⟨hx, hno⟩ | ⟨k, hk, hx, hp, hno⟩
  · have HX := Lib.hid hx
    have HM := Lib.hid (zeroT_no (ds := ds) (by omega))
    clear hx hno hr
    go_enter Tryd.func82, Tryd.ntmps82
    go_wp2_with (go_at_call 48; refine (valueAt_v ds 0 _ _ _ _ HR.out HX.out).mono ?_; rintro e w' ⟨rfl, rfl⟩)
    go_ret
    rw [HM.out]
    exact ⟨rfl, rfl⟩
  · have HX := Lib.hid hx
    have HM := Lib.hid (zeroT_yes hk hx)
    have hi1 : (k : Int) < (ds.length : Int) := by omega
    obtain ⟨b, o, rfl, hbb, d1, d2⟩ := hr.at_ hk
    clear hx hno hr hp
    go_enter Tryd.func82, Tryd.ntmps82
    go_wp2_with (go_at_call 48; refine (valueAt_v ds 0 _ _ _ _ HR.out HX.out).mono ?_; rintro e w' ⟨rfl, rfl⟩)
    go_ret
    rw [HM.out]
    exact ⟨rfl, rfl⟩

set_option maxHeartbeats 8000000 in
theorem withRest_any (ds : List D) (ws : List ByteArray) (r : Nat) (A : Option Addr) (n c : Nat) (As : Option Addr) (q cs : Nat) (w : World) (hr : SD w w.heap.size A n c ds) (hs : SS w w.heap.size As q cs ws) (hr4 : r < 4096) (hS : ∀ s ∈ ws, s.size ≤ 8) (hl : ws.length ≤ 100) :
    Calls Tryd.prog 41 #[.slice A n c, .slice As q cs, .int .i64 r] w fun e w' => e = .returned (.string (textW ds (ws ++ restW r))) ∧ Below w.heap.size w w' := by
  obtain rfl := hs.len
  have hmx := hs.max
  have hcp := hs.cap
  unfold maxLen at hmx
  have HR := Lib.hid hr
  have HSW := Lib.hid hs
  have HS8 := Lib.hid hS
  clear hr hs hS
  by_cases h0 : 0 < r
  · have h01 : (0 : Int) < (r : Int) := by omega
    have HRW : Hid (restW r = [decB r]) := Lib.hid (by unfold restW; rw [if_neg (by omega)])
    have hz8 : (decB r).size ≤ 8 := decB_size 7 r (by omega)
    obtain ⟨t, ht⟩ : ∃ t, decB r = t := ⟨_, rfl⟩
    rw [ht] at HRW hz8
    have HTD := Lib.hid ht
    have HM0 : Hid ((w.alloc (.cells #[] 9)).ownsRow w.heap.size 9 1 (.slice (some ⟨w.heap.size, 0, none⟩) 0 0) 0 []) := Lib.hid (World.ownsRow_made w #[] 0 (Nat.le_refl _) (by unfold maxLen; omega) rfl)
    have hbA : Below w.heap.size w (w.alloc (.cells #[] 9)) := (Below.refl _ _).alloc (Nat.le_refl _) _
    have HSL := Lib.hid (HSW.out.below hbA)
    have HBA := Lib.hid hbA
    obtain ⟨i0, hi, hz0, hz1, hz2⟩ := info_parts info_S
    have HI0 := Lib.hid (And.intro hi (And.intro hz0 (And.intro hz1 hz2)))
    clear hi hz0 hz1 hz2 ht hbA h0
    go_enter Tryd.func41, Tryd.ntmps41
    have HNUM : Hid (∀ w, Calls Tryd.prog 49 #[.int .i64 (r : Int)] w fun e w' => e = .returned (.string t) ∧ w = w') := Lib.hid (fun w => by rw [← HTD.out]; exact number_any r _ w rfl (by omega))
    go_wp2_with (first
      | (go_at_call 49; refine (HNUM.out _).mono ?_; rintro e w6 ⟨rfl, rfl⟩)
      | (at_builtin; refine wpList_app_S rfl _ _ rfl w.heap.size _ _ _ rfl HO5.out _ _ _ rfl rfl (by omega) HB5.out.size ?_; intro v' w6 ho6 hb6; obtain ⟨A6, c6, rfl⟩ := own_form ho6; have HO6 := Lib.hid ho6; have HB6 : Hid (Below w.heap.size w w6) := Lib.hid (HB5.out.trans hb6); clear ho6 hb6)
      | (at_builtin; refine wpList_app_src rfl _ _ _ rfl w.heap.size _ i0 _ 1 16 Tryd.underlying68 HI0.out rfl (by omega) (by omega) _ 0 _ rfl HM0.out _ _ _ _ rfl (HSL.out.slv.src (fun _ => rfl)) (one_Sv _) (by omega) (by simp) ?_; intro v' w5 ho5 hg5; rw [Nat.zero_add, List.nil_append] at ho5; obtain ⟨A5, c5, rfl⟩ := own_form ho5; have HO5 := Lib.hid ho5; have HB5 : Hid (Below w.heap.size w w5) := Lib.hid (HBA.out.grown hg5 (by simp) (fun q hq => (HM0.out.lt q hq).1)); clear ho5 hg5))
    have HNE : Hid (ws ++ [t] ≠ []) := Lib.hid (by intro e; have := congrArg List.length e; simp at this)
    have HSS : Hid (SS w6 w6.heap.size A6 (ws.length + 1) c6 (ws ++ [t])) := Lib.hid (by
      have h := HO6.out
      have e : (ws.flatMap encS ++ [.string t] : List Value) = flatS (ws ++ [t]) := by rw [flatS_enc]; unfold flatS; rw [List.map_append]; rfl
      rw [e] at h
      exact ss_of_own h (fun s hs => by
        rcases List.mem_append.1 hs with h | h
        · have := HS8.out s h; unfold maxLen; omega
        · rw [List.mem_singleton.1 h]; unfold maxLen; omega))
    have HS9 : Hid (∀ s ∈ ws ++ [t], s.size ≤ 8) := Lib.hid (fun s hs => by
      rcases List.mem_append.1 hs with h | h
      · exact HS8.out s h
      · rw [List.mem_singleton.1 h]; exact hz8)
    go_wp2_with fail
    refine (joinWith_any (ws ++ [t]) bar _ _ _ _ HSS.out 1000 (fun k hk => ?_) (fun s hs => by have := HS9.out s hs; omega) (by decide) (by omega)).mono ?_
    · have h1 := joinW_size (sep := bar) HS9.out k hk
      have h2 : bar.size = 1 := rfl
      rw [h2] at h1
      rw [List.length_append, List.length_singleton] at hk
      omega
    rintro e w7 ⟨rfl, rfl⟩
    go_wp2
    go_ret
    rw [HRW.out]
    unfold textW
    rw [if_neg HNE.out]
    exact ⟨rfl, HB6.out⟩
  · have h01 : ¬ (0 : Int) < (r : Int) := by omega
    have HRW : Hid (ws ++ restW r = ws) := Lib.hid (by unfold restW; rw [if_pos (by omega), List.append_nil])
    clear h0
    rw [HRW.out]
    by_cases hw0 : ws = []
    · subst hw0
      go_enter Tryd.func41, Tryd.ntmps41
      go_wp2_with (go_at_call 82; refine (zeroText_any ds _ _ _ _ HR.out).mono ?_; rintro e w' ⟨rfl, rfl⟩)
      go_ret
      unfold textW
      rw [if_pos rfl]
      exact ⟨rfl, Below.refl _ _⟩
    · have HNE := Lib.hid hw0
      have hl0 : ((ws.length : Int) == 0) = false := by
        rw [beq_eq_false_iff_ne]
        intro e
        exact hw0 (List.eq_nil_of_length_eq_zero (by omega))
      clear hw0
      go_enter Tryd.func41, Tryd.ntmps41
      go_wp2_with fail
      refine (joinWith_any ws bar _ _ _ _ HSW.out 1000 (fun k hk => ?_) (fun s hs => by have := HS8.out s hs; omega) (by decide) (by omega)).mono ?_
      · have h1 := joinW_size (sep := bar) HS8.out k hk
        have h2 : bar.size = 1 := rfl
        rw [h2] at h1
        omega
      rintro e w7 ⟨rfl, rfl⟩
      go_wp2
      go_ret
      unfold textW
      rw [if_neg HNE.out]
      exact ⟨rfl, Below.refl _ _⟩
end Go.Proofs.YtboehlffbibgmaaDoor
