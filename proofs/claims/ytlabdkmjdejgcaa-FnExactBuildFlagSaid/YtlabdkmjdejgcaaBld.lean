import Derived.Test.YtlabdkmjdejgcaaItems
import Derived.Test.YtlabdkmjdejgcaaApp
namespace Go.Proofs.Ytlabdkmjdejgcaa
open Go.RowKit Go.Maps
set_option linter.unusedVariables false
set_option maxRecDepth 100000

/-! ### validItems -/
set_option maxHeartbeats 2000000 in
theorem validItems_any (ts : List It) (lo hi : Int) (A : Option Addr) (c n : Nat) (w : World) (hr : ST w w.heap.size A n c ts) {v : Bool} (hv : vItems lo hi ts = v) :
    Calls Try.prog 53 #[.slice A n c, .int .i64 lo, .int .i64 hi] w fun e w' => e = .returned (.bool v) ∧ Below w.heap.size w w' := by
  subst hv
  obtain rfl := hr.len
  have hl := hr.max
  have hl2 := hr.cap
  unfold maxLen at hl
  have HR := Lib.hid hr
  clear hr
  go_enter Try.func53, Try.ntmps53
  go_wp2
  go_loopw [7] (fun i wr => ∃ k : Nat, k ≤ ts.length ∧ i = .int .i64 k ∧ Hid (goodsT lo hi ts k) ∧ Hid (Below w.heap.size w wr)) (fun i _ => ts.length - (intOf i).toNat)
  case atStart => exact ⟨0, Nat.zero_le _, rfl, Lib.hid (goodsT_zero _ _ _), Lib.hid (Below.refl _ _)⟩
  case round =>
    obtain ⟨k, hk, rfl, hok, hbel⟩ := hrel
    by_cases hlt : k < ts.length
    · obtain ⟨b, o, rfl, hb, c1, c2, c3⟩ := (HR.out.below hbel.out).at_ hlt
      have HN := Lib.hid (HR.out.ok _ (List.getElem_mem hlt)).1
      have HG : Hid (goodT lo hi ts k ts[k] = (vName ts[k].name && !(ts[k].auto && ts[k].val != 0) && (decide (lo ≤ ts[k].val) && decide (ts[k].val ≤ hi)) && !(ts.take k).any (isTn ts[k].name))) := Lib.hid rfl
      have hi1 : (k : Int) < (ts.length : Int) := by omega
      have hi0 : (0 : Int) ≤ (k : Int) := by omega
      cases hvn : vName ts[k].name
      · have H1 := Lib.hid hvn
        clear hvn
        go_wp2_with (go_at_call 86; refine (specName_v _ _ HN.out H1.out).mono ?_; rintro e w' ⟨rfl, rfl⟩)
        go_ret
        exact ⟨ret_bool (vItems_bad hlt (by rw [HG.out, H1.out]; rfl)).symm, hbel.out⟩
      · have H1 := Lib.hid hvn
        clear hvn
        cases ht : (ts[k].auto && ts[k].val != 0)
        · have H2 := Lib.hid ht
          cases hrg : (decide (lo ≤ ts[k].val) && decide (ts[k].val ≤ hi))
          · have H3 := Lib.hid hrg
            clear hrg
            cases ha : ts[k].auto
            · rw [ha] at c2
              clear ht ha
              go_wp2_with (first | (go_at_call 86; refine (specName_v _ _ HN.out H1.out).mono ?_; rintro e w' ⟨rfl, rfl⟩) | (go_at_call 67; refine (inRange_v _ _ _ _ H3.out).mono ?_; rintro e w' ⟨rfl, rfl⟩))
              go_ret
              exact ⟨ret_bool (vItems_bad hlt (by rw [HG.out, H1.out, H2.out, H3.out]; rfl)).symm, hbel.out⟩
            · rw [ha] at c2 ht
              simp only [Bool.true_and] at ht
              clear ha
              go_wp2_with (first | (go_at_call 86; refine (specName_v _ _ HN.out H1.out).mono ?_; rintro e w' ⟨rfl, rfl⟩) | (go_at_call 67; refine (inRange_v _ _ _ _ H3.out).mono ?_; rintro e w' ⟨rfl, rfl⟩))
              go_ret
              exact ⟨ret_bool (vItems_bad hlt (by rw [HG.out, H1.out, H2.out, H3.out]; rfl)).symm, hbel.out⟩
          · have H3 := Lib.hid hrg
            clear hrg
            have HLOOP : Hid ((ts[k].auto = false) ∨ (ts[k].auto = true ∧ (ts[k].val != 0) = false)) := Lib.hid (by cases ha : ts[k].auto <;> simp_all)
            clear ht
            rcases HLOOP.out with ha | ⟨ha, ht⟩
            all_goals
              rw [ha] at c2
              clear ha
              go_wp2_with (first | (go_at_call 86; refine (specName_v _ _ HN.out H1.out).mono ?_; rintro e w' ⟨rfl, rfl⟩) | (go_at_call 67; refine (inRange_v _ _ _ _ H3.out).mono ?_; rintro e w' ⟨rfl, rfl⟩))
              clear c2 c3
              go_loopw [8] (fun i wq => ∃ m : Nat, m ≤ k ∧ i = .int .i64 m ∧ Hid ((ts.take m).any (isTn ts[k].name) = false) ∧ Hid (Below w.heap.size w wq)) (fun i _ => k - (intOf i).toNat)
              case atStart => exact ⟨0, Nat.zero_le _, rfl, Lib.hid (by simp), hbel⟩
              case round =>
                obtain ⟨m, hm, rfl, hno, hbq⟩ := hrel
                by_cases hlt2 : m < k
                · have hmt : m < ts.length := by omega
                  obtain ⟨b', o', hA, hb', d1, _, _⟩ := (HR.out.below hbq.out).at_ hmt
                  obtain ⟨b2, o2, hA2, _, d2, _, _⟩ := (HR.out.below hbq.out).at_ hlt
                  injection hA with hA
                  injection hA with q1 q2
                  subst q1 q2
                  injection hA2 with hA2
                  injection hA2 with q1 q2
                  subst q1 q2
                  have hj1 : (m : Int) < (ts.length : Int) := by omega
                  have hj0 : (0 : Int) ≤ (m : Int) := by omega
                  have hj2 : (m : Int) < (k : Int) := by omega
                  have HS := Lib.hid (any_take_succ (isTn ts[k].name) ts m hmt)
                  cases hp : isTn ts[k].name ts[m]
                  · have hp1 : (ts[m].name.toList == ts[k].name.toList) = false := hp
                    have HP := Lib.hid hp
                    clear hp
                    go_wp2
                    go_quiet (fail)
                    go_wp2
                    go_roundw
                    case rel => exact ⟨m + 1, by omega, by go_num, Lib.hid (by rw [HS.out, hno.out, HP.out]; rfl), Lib.hid (below_drewN hbq.out _)⟩
                    case measure => simp [intOf]; omega
                  · have hp1 : (ts[m].name.toList == ts[k].name.toList) = true := hp
                    have HP := Lib.hid (show (ts.take k).any (isTn ts[k].name) = true from List.any_eq_true.2 ⟨ts[m], by rw [List.mem_take_iff_getElem]; exact ⟨m, by omega, rfl⟩, hp⟩)
                    clear hp
                    go_wp2
                    go_quiet (fail)
                    go_wp2
                    go_ret
                    exact ⟨ret_bool (vItems_bad hlt (by rw [HG.out, HP.out]; simp)).symm, below_drewN hbq.out _⟩
                · obtain rfl : m = k := by omega
                  go_wp2
                  go_roundw
                  case rel => exact ⟨m + 1, by omega, by go_num, Lib.hid (goodsT_succ hok.out hlt (by rw [HG.out, H1.out, H2.out, H3.out, hno.out]; rfl)), hbq⟩
                  case measure => simp [intOf]; omega
        · have H2 := Lib.hid ht
          have ha : ts[k].auto = true := by cases ha : ts[k].auto <;> simp_all
          rw [ha] at c2 ht
          simp only [Bool.true_and] at ht
          clear ha
          go_wp2_with (go_at_call 86; refine (specName_v _ _ HN.out H1.out).mono ?_; rintro e w' ⟨rfl, rfl⟩)
          go_ret
          exact ⟨ret_bool (vItems_bad hlt (by rw [HG.out, H1.out, H2.out]; rfl)).symm, hbel.out⟩
    · obtain rfl : k = ts.length := by omega
      have HE := Lib.hid (vItems_end hok.out)
      by_cases h12 : ts.length ≤ 12
      all_goals
        go_wp2
        go_ret
        exact ⟨ret_bool (by rw [HE.out]; simp [h12]; omega), hbel.out⟩

/-! ### the next value -/
theorem hiTo_bds {ds : List D} {b : Int} (hb : 0 ≤ b) (h : ∀ d ∈ ds, -b ≤ d.val ∧ d.val ≤ b) (k : Nat) : hiTo ds k ≤ b ∧ -b ≤ hiTo ds k := by
  have key : ∀ k, -b ≤ valAt ds k ∧ valAt ds k ≤ b := by
    intro k
    unfold valAt
    split
    · rename_i d e; exact h d (List.mem_of_getElem? e)
    · omega
  induction k with
  | zero => have := key 0; show valAt ds 0 ≤ _ ∧ _ ≤ valAt ds 0; omega
  | succ k ih => have := key k; show max (hiTo ds k) (valAt ds k) ≤ _ ∧ _ ≤ max (hiTo ds k) (valAt ds k); omega

def toldOf (a : Bool) (v : Int) : Int := if a then (if v == 0 then 1 else 2) else 0
set_option maxHeartbeats 1000000 in
theorem howTold_any (s : ByteArray) (a : Bool) (v : Int) (w : World) {q : Int} (hq : toldOf a v = q) :
    Calls Try.prog 56 #[.agg #[.string s, .bool a, .int .i64 v]] w fun e w' => e = .returned (.int .i64 q) ∧ Below w.heap.size w w' := by
  subst hq
  cases a
  · go_enter Try.func56, Try.ntmps56
    go_wp2
    go_ret
    exact ⟨rfl, (Below.refl _ _).alloc (Nat.le_refl _) _⟩
  · cases hv : v == 0
    · have HT : Hid (toldOf true v = 2) := Lib.hid (by unfold toldOf; rw [hv]; rfl)
      go_enter Try.func56, Try.ntmps56
      go_wp2
      go_ret
      exact ⟨by rw [HT.out]; rfl, (Below.refl _ _).alloc (Nat.le_refl _) _⟩
    · have HT : Hid (toldOf true v = 1) := Lib.hid (by unfold toldOf; rw [hv]; rfl)
      go_enter Try.func56, Try.ntmps56
      go_wp2
      go_ret
      exact ⟨by rw [HT.out]; rfl, (Below.refl _ _).alloc (Nat.le_refl _) _⟩
end Go.Proofs.Ytlabdkmjdejgcaa
