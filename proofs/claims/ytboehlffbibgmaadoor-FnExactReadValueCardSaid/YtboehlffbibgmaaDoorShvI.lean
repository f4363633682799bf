import Derived.Test.YtboehlffbibgmaaDoorShvP
import Derived.Test.YtboehlffbibgmaaDoorShwL
import Derived.Test.YtboehlffbibgmaaDoorShwJ
import Derived.Test.YtboehlffbibgmaaDoorFewC
import Derived.Test.YtboehlffbibgmaaDoorAlgJ
import Derived.Test.YtboehlffbibgmaaDoorBaseE
namespace Go.Proofs.YtboehlffbibgmaaDoor
open Go.RowKit
set_option linter.unusedVariables false
set_option linter.unusedSimpArgs false
set_option maxRecDepth 100000

/-! ### strings.Join -/
theorem join_v (ss : List ByteArray) (A : Option Addr) (n c : Nat) (w : World) (hr : SS w w.heap.size A n c ss) (hne : ss ≠ []) (hl : ss.length ≤ 200) (hS : ∀ s ∈ ss, s.size ≤ 8) :
    Calls Tryd.prog 63 #[.slice A n c, .string bar] w fun e w' => e = .returned (.string (joinW ss bar)) ∧ Below w.heap.size w w' := by
  obtain rfl := hr.len
  have hcp := hr.cap
  have hpos : 0 < ss.length := by
    rcases Nat.eq_zero_or_pos ss.length with h | h
    · exact absurd (List.eq_nil_of_length_eq_zero h) hne
    · exact h
  obtain ⟨b, o, rfl, hb, _⟩ := hr.at_ hpos
  refine Tryd.strings_Join b o c ss bar w (fun j x hj => ?_) hb (by omega) hcp ?_
  · obtain ⟨hlt, rfl⟩ := List.getElem?_eq_some_iff.1 hj
    obtain ⟨b2, o2, e, _, h⟩ := hr.at_ hlt
    cases e
    exact h
  · have h1 := joinW_size (sep := bar) hS ss.length (Nat.le_refl _)
    rw [List.take_of_length_le (Nat.le_refl _)] at h1
    have h2 : bar.size = 1 := rfl
    rw [h2] at h1
    have h3 : (joinW ss bar).size = (Lib.join (ss.map (·.data.toList)) bar.data.toList).length := by
      show (joinW ss bar).data.size = _
      unfold joinW
      simp
    omega
theorem exact_zero {ds : List D} {b : Int} (hv : vFlag ds b = true) : zeroT ds = if mExOk ds b 0 then mExN ds b 0 else ⟨#[48]⟩ := by
  rcases fidx_cases (isVal 0) ds with ⟨hx, _⟩ | ⟨k, hk, hx, _, _⟩
  · rw [zeroT_no (by omega), if_neg]
    unfold mExOk
    rw [hv, decide_eq_false (by omega)]
    simp
  · obtain ⟨h1, h2⟩ := mEx_yes hv hk hx
    rw [zeroT_yes hk hx, if_pos h1, h2]

/-! ### the program's shown -/
set_option maxHeartbeats 8000000 in
theorem implShown_any (ds l : List D) (b : Int) (a : Nat) (A : Option Addr) (n c : Nat) (Al : Option Addr) (q cl : Nat) (w : World) (hr : SD w w.heap.size A n c ds) (hs : SD w w.heap.size Al q cl l) (hn : n ≤ 1048576) (hv : vFlag ds b = true) (hin : ∀ d ∈ l, inR d) (ha : a < 4096) (hS : ∀ d ∈ l, d.name.size ≤ 6) (hl : l.length ≤ 100) (hT : P10 w) (hG : p10G < w.heap.size) :
    Calls Tryd.prog 30 #[.agg #[.slice A n c, .int .i64 b], .int .i64 a, .slice Al q cl] w fun e w' => e = .returned (.string (mText ds l a)) ∧ Below w.heap.size w w' := by
  obtain rfl := hs.len
  have hlm := hs.max
  have hlc := hs.cap
  unfold maxLen at hlm
  obtain ⟨tx, htx⟩ : ∃ tx, mText ds l a = tx := ⟨_, rfl⟩
  have HTX0 := Lib.hid htx
  rw [htx]
  clear htx
  have HF0 := Lib.hid (FB.start hr b)
  have hbA : Below w.heap.size w (w.alloc (.cells #[.slice A n c, .int .i64 b] 29)) := (Below.refl _ _).alloc (Nat.le_refl _) _
  have HL0 := Lib.hid ((hs.below hbA).call hbA.size)
  have HT := Lib.hid hT
  have HV := Lib.hid hv
  have HIN := Lib.hid hin
  have HS6 := Lib.hid hS
  have HEX := Lib.hid (exact_zero hv)
  obtain ⟨ws, hws⟩ : ∃ ws, l.map (·.name) = ws := ⟨_, rfl⟩
  have HNM := Lib.hid (fun (A : Option Addr) (n c : Nat) (w : World) (hr : SD w w.heap.size A n c l) (hn : n ≤ 1048576) => implNames_any l A n c w hr hn)
  unfold StrsP at HNM
  rw [hws] at HNM
  have HOW : Hid (∀ s ∈ ws, s.size ≤ 8) := Lib.hid (fun s hs => by
    rw [← hws] at hs
    obtain ⟨d, hd, rfl⟩ := List.mem_map.1 hs
    have := HS6.out d hd
    omega)
  have hwl : ws.length ≤ 100 := by rw [← hws, List.length_map]; exact hl
  have HWSL := Lib.hid hws
  clear hws
  obtain ⟨w0, hw⟩ : ∃ W : World, W = w.alloc (.cells #[.slice A n c, .int .i64 b] 29) := ⟨_, rfl⟩
  have f0 : (w.alloc (.cells #[.slice A n c, .int .i64 b] 29)).cell? ⟨w.heap.size, 0, none⟩ = some (.slice A n c) := HF0.out.c0
  have f1 : (w.alloc (.cells #[.slice A n c, .int .i64 b] 29)).cell? ⟨w.heap.size, 1, none⟩ = some (.int .i64 b) := HF0.out.c1
  rw [← hw] at HF0 HL0
  have HW := Lib.hid hw.symm
  clear hr hs hbA hT hv hin hS hw
  go_enter Tryd.func30, Tryd.ntmps30
  go_wp2_with fail
  rw [HW.out]
  clear HW f0 f1
  refine (HNM.out _ _ _ _ HL0.out (by omega)).mono ?_
  rintro e w1 ⟨Aw, cw, rfl, ho, hb⟩
  have HF1 := Lib.hid (HF0.out.call hb)
  have HL1 := Lib.hid ((HL0.out.below hb).call hb.size)
  have hW1 : Hid (w1.ownsRow w0.heap.size 9 1 (.slice Aw ws.length cw) ws.length (flatS ws)) := Lib.hid ho
  have HZ1 : Hid (w0.heap.size ≤ w1.heap.size) := Lib.hid hb.size
  clear ho hb HL0
  obtain ⟨m, hm⟩ : ∃ m, mMask l = m := ⟨_, rfl⟩
  have HM := Lib.hid hm
  have hm4 : m < 4096 := by rw [← hm]; exact mMask_lt12 HIN.out
  clear hm
  go_wp2_with fail
  refine (implMask_v l _ _ _ _ HL1.out (small40 HIN.out) HM.out).mono ?_
  rintro e w2 ⟨rfl, hb⟩
  have HF2 := Lib.hid (HF1.out.call hb)
  have hW2 := Lib.hid (own_below hW1.out hb)
  have HZ2 : Hid (w0.heap.size ≤ w2.heap.size) := Lib.hid (Nat.le_trans HZ1.out hb.size)
  clear hb HL1 hW1 HF1 HZ1
  have hnl := i64_andNot_nat a m (by omega) (by omega)
  obtain ⟨r, hr⟩ : ∃ r, nl a m = r := ⟨_, rfl⟩
  have HR := Lib.hid hr
  have hr4 : r < 4096 := by rw [← hr]; have := nl_add_and a m; omega
  rw [hr] at hnl
  clear hr
  have HTX : Hid (tx = textW ds (ws ++ restW r)) := Lib.hid (by rw [← HTX0.out]; unfold mText; rw [HWSL.out, HM.out, HR.out])
  have hF2 : Hid (∀ s ∈ ws, s.size ≤ maxLen) := Lib.hid (fun s hs => by have := HOW.out s hs; unfold maxLen; omega)
  clear HWSL HM HR HTX0 HIN HS6 HNM
  by_cases h0 : r = 0
  · subst h0
    have HRW : Hid (ws ++ restW 0 = ws) := Lib.hid (by unfold restW; rw [if_pos rfl, List.append_nil])
    have HTXW : Hid (tx = textW ds ws) := Lib.hid (by rw [HTX.out, HRW.out])
    clear HTX HRW
    by_cases hw0 : ws = []
    · have hpos : ¬ (0 : Int) < (ws.length : Int) := by rw [hw0]; decide
      have HWE := Lib.hid hw0
      clear hw0
      obtain ⟨s, hs⟩ : ∃ s, mExN ds b 0 = s := ⟨_, rfl⟩
      obtain ⟨v, hv⟩ : ∃ v, mExOk ds b 0 = v := ⟨_, rfl⟩
      have HSX := Lib.hid hs
      have HVX := Lib.hid hv
      have HTX : Hid (tx = if v then s else ⟨#[48]⟩) := Lib.hid (by rw [HTXW.out]; unfold textW; rw [if_pos HWE.out, HEX.out, hs, hv])
      clear hs hv
      have e0 := HF2.out.c0
      have e1 := HF2.out.c1
      go_wp2_with fail
      refine (implExact_v ds b 0 _ _ _ _ HF2.out.sd hn ⟨by omega, by omega⟩ HSX.out HVX.out).mono ?_
      rintro e w3 ⟨rfl, hb⟩
      have HB3 := Lib.hid (HF2.out.after hb)
      clear hb e0 e1
      cases v
      · go_wp2
        go_ret
        exact ⟨by rw [HTX.out]; rfl, HB3.out⟩
      · go_wp2
        go_ret
        exact ⟨by rw [HTX.out]; rfl, HB3.out⟩
    · have HNE := Lib.hid hw0
      have hpos : (0 : Int) < (ws.length : Int) := by
        rcases Nat.eq_zero_or_pos ws.length with h | h
        · exact absurd (List.eq_nil_of_length_eq_zero h) hw0
        · omega
      have HSS := Lib.hid (ss_of_own hW2.out hF2.out)
      clear hw0
      go_wp2_with fail
      refine (join_v ws _ _ _ _ HSS.out HNE.out (by omega) HOW.out).mono ?_
      rintro e w3 ⟨rfl, hb⟩
      have HB3 := Lib.hid (HF2.out.after hb)
      clear hb
      go_wp2
      go_ret
      exact ⟨by rw [HTXW.out]; unfold textW; rw [if_neg HNE.out]; first | done | rfl, HB3.out⟩
  · have h01 : ((r : Int) == 0) = false := by rw [beq_eq_false_iff_ne]; omega
    have HRW : Hid (restW r = [decB r]) := Lib.hid (by unfold restW; rw [if_neg h0])
    have hz8 : (decB r).size ≤ 8 := decB_size 7 r (by omega)
    have HIT : Hid (itoaB (r : Int) = decB r) := Lib.hid (itoaB_pos r)
    obtain ⟨t, ht⟩ : ∃ t, decB r = t := ⟨_, rfl⟩
    rw [ht] at HRW hz8 HIT
    clear ht h0
    have HTXW : Hid (tx = textW ds (ws ++ [t])) := Lib.hid (by rw [HTX.out, HRW.out])
    clear HTX HRW
    go_wp2_with fail
    refine (itoa_v r (by omega) (by omega) _ (HT.out.below (HF2.out.bel) hG)).mono ?_
    rintro e w3 ⟨rfl, hb⟩
    rw [HIT.out]
    have HF3 := Lib.hid (HF2.out.call hb)
    have hW3 := Lib.hid (own_below hW2.out hb)
    have HZ3 : Hid (w0.heap.size ≤ w3.heap.size) := Lib.hid (Nat.le_trans HZ2.out hb.size)
    clear hb hW2 HZ2
    go_wp2_with (at_builtin; refine wpList_app_S rfl _ _ rfl w0.heap.size _ _ _ rfl hW3.out _ _ _ rfl rfl (by omega) HZ3.out ?_; intro v' w6 ho6 hb6; obtain ⟨A6, c6, rfl⟩ := own_form ho6; have HO6 := Lib.hid ho6; have HB6 := Lib.hid hb6; clear ho6 hb6)
    have HNE : Hid (ws ++ [t] ≠ []) := Lib.hid (by intro e; have := congrArg List.length e; simp at this)
    have HSS : Hid (SS w6 w6.heap.size A6 (ws.length + 1) c6 (ws ++ [t])) := Lib.hid (by
      have h := HO6.out
      have e : (flatS ws ++ [.string t] : List Value) = flatS (ws ++ [t]) := by unfold flatS; rw [List.map_append]; rfl
      rw [e] at h
      exact ss_of_own h (fun s hs => by
        rcases List.mem_append.1 hs with h | h
        · exact hF2.out s h
        · rw [List.mem_singleton.1 h]; unfold maxLen; omega))
    have HS9 : Hid (∀ s ∈ ws ++ [t], s.size ≤ 8) := Lib.hid (fun s hs => by
      rcases List.mem_append.1 hs with h | h
      · exact HOW.out s h
      · rw [List.mem_singleton.1 h]; exact hz8)
    have HB7 : Hid (Below w.heap.size w w6) := Lib.hid (HF3.out.bel.trans (HB6.out.mono HF0.out.bel.size))
    go_wp2_with fail
    refine (join_v (ws ++ [t]) _ _ _ _ HSS.out HNE.out (by simp; omega) HS9.out).mono ?_
    rintro e w7 ⟨rfl, hb⟩
    have HB8 : Hid (Below w.heap.size w w7) := Lib.hid (HB7.out.trans (hb.mono HB7.out.size))
    clear hb
    go_wp2
    go_ret
    exact ⟨by rw [HTXW.out]; unfold textW; rw [if_neg HNE.out]; first | done | rfl, HB8.out⟩
end Go.Proofs.YtboehlffbibgmaaDoor
