import Derived.Test.YtiebdhbioccogaaGreatDoorBaseW
import Derived.Test.YtiebdhbioccogaaGreatDoorShwP
import Derived.Lib.AppendIntMem
import Derived.Below
import Derived.Test.YtiebdhbioccogaaGreatDoorBaseQ
import Derived.Test.YtiebdhbioccogaaGreatDoorBaseV
import Derived.Test.YtiebdhbioccogaaGreatDoorAlgJ
import Derived.Test.YtiebdhbioccogaaGreatDoorBaseE
import Derived.Test.YtiebdhbioccogaaGreatDoorBaseX
namespace Go.Proofs.YtiebdhbioccogaaGreatDoor
open Go.RowKit
set_option linter.unusedVariables false
set_option maxRecDepth 100000

/-! ### strconv.Itoa -/
def p10G : Nat := 4
/-- The table of powers of ten. -/
def P10 (w : World) : Prop := Lib.TabIs Tryz.prog w "internal/strconv.uint64pow10" .u64 Lib.pow10Tab
theorem P10.below {w w' : World} {B : Nat} (h : P10 w) (hb : Below B w w') (hB : p10G < B) : P10 w' := by
  unfold P10 Lib.TabIs World.var? at *
  rw [show Tryz.prog.globalNamed "internal/strconv.uint64pow10" = some p10G by kernel_rfl] at h ⊢
  simp only [Option.bind_some] at h ⊢
  rw [hb.block _ hB]
  exact h
theorem itoa_v (n : Int) (h0 : -9223372036854775808 ≤ n) (h1 : n ≤ 9223372036854775807) (w : World) (h : P10 w) :
    Calls Tryz.prog 94 #[.int .i64 n] w fun e w' => e = .returned (.string (itoaB n)) ∧ Below w.heap.size w w' := by
  refine (Tryz.strconv_Itoa n h0 h1 w h).mono ?_
  rintro e w' ⟨he, k, os, rfl⟩
  exact ⟨he, Lib.below_grow _ w (Nat.le_refl _) k os⟩
end Go.Proofs.YtiebdhbioccogaaGreatDoor

namespace Go.Proofs.YtiebdhbioccogaaGreatDoor
open Go.RowKit
set_option linter.unusedVariables false
set_option linter.unusedSimpArgs false
set_option maxRecDepth 100000

/-! ### strings.Join -/
theorem join_v (ss : List ByteArray) (A : Option Addr) (n c : Nat) (w : World) (hr : SS w w.heap.size A n c ss) (hne : ss ≠ []) (hl : ss.length ≤ 200) (hS : ∀ s ∈ ss, s.size ≤ 8) :
    Calls Tryz.prog 151 #[.slice A n c, .string bar] w fun e w' => e = .returned (.string (joinW ss bar)) ∧ Below w.heap.size w w' := by
  obtain rfl := hr.len
  have hcp := hr.cap
  have hpos : 0 < ss.length := by
    rcases Nat.eq_zero_or_pos ss.length with h | h
    · exact absurd (List.eq_nil_of_length_eq_zero h) hne
    · exact h
  obtain ⟨b, o, rfl, hb, _⟩ := hr.at_ hpos
  refine Tryz.strings_Join b o c ss bar w (fun j x hj => ?_) hb (by omega) hcp ?_
  · obtain ⟨hlt, rfl⟩ := List.getElem?_eq_some_iff.1 hj
    obtain ⟨b2, o2, e, _, h⟩ := hr.at_ hlt
    cases e
    exact h
  · have h1 := joinW_size (sep := bar) hS ss.length (Nat.le_refl _)
    rw [List.take_of_length_le (Nat.le_refl _)] at h1
    have h2 : bar.size = 1 := rfl
    rw [h2] at h1
    have h3 : (joinW ss bar).size = (Lib.join (ss.map (·.data.toList)) bar.data.toList).length := by
      show (joinW ss bar).data.size = _
      unfold joinW
      simp
    omega
theorem exact_zero {ds : List D} {b : Int} (hv : vFlag ds b = true) : zeroT ds = if mExOk ds b 0 then mExN ds b 0 else ⟨#[48]⟩ := by
  rcases fidx_cases (isVal 0) ds with ⟨hx, _⟩ | ⟨k, hk, hx, _, _⟩
  · rw [zeroT_no (by omega), if_neg]
    unfold mExOk
    rw [hv, decide_eq_false (by omega)]
    simp
  · obtain ⟨h1, h2⟩ := mEx_yes hv hk hx
    rw [zeroT_yes hk hx, if_pos h1, h2]

/-! ### the program's shown -/
set_option maxHeartbeats 8000000 in
theorem implShown_any (ds l : List D) (b : Int) (a : Nat) (A : Option Addr) (n c : Nat) (Al : Option Addr) (q cl : Nat) (w : World) (hr : SD w w.heap.size A n c ds) (hs : SD w w.heap.size Al q cl l) (hn : n ≤ 1048576) (hv : vFlag ds b = true) (hin : ∀ d ∈ l, inR d) (ha : a < 4096) (hS : ∀ d ∈ l, d.name.size ≤ 6) (hl : l.length ≤ 100) (hT : P10 w) (hG : p10G < w.heap.size) :
    Calls Tryz.prog 124 #[.agg #[.slice A n c, .int .i64 b], .int .i64 a, .slice Al q cl] w fun e w' => e = .returned (.string (mText ds l a)) ∧ Below w.heap.size w w' := by
  obtain rfl := hs.len
  have hlm := hs.max
  have hlc := hs.cap
  unfold maxLen at hlm
  obtain ⟨tx, htx⟩ : ∃ tx, mText ds l a = tx := ⟨_, rfl⟩
  have HTX0 := Lib.hid htx
  rw [htx]
  clear htx
  have HF0 := Lib.hid (FB.start hr b)
  have hbA : Below w.heap.size w (w.alloc (.cells #[.slice A n c, .int .i64 b] 35)) := (Below.refl _ _).alloc (Nat.le_refl _) _
  have HL0 := Lib.hid ((hs.below hbA).call hbA.size)
  have HT := Lib.hid hT
  have HV := Lib.hid hv
  have HIN := Lib.hid hin
  have HS6 := Lib.hid hS
  have HEX := Lib.hid (exact_zero hv)
  obtain ⟨ws, hws⟩ : ∃ ws, l.map (·.name) = ws := ⟨_, rfl⟩
  have HNM := Lib.hid (fun (A : Option Addr) (n c : Nat) (w : World) (hr : SD w w.heap.size A n c l) (hn : n ≤ 1048576) => implNames_any l A n c w hr hn)
  unfold StrsP at HNM
  rw [hws] at HNM
  have HOW : Hid (∀ s ∈ ws, s.size ≤ 8) := Lib.hid (fun s hs => by
    rw [← hws] at hs
    obtain ⟨d, hd, rfl⟩ := List.mem_map.1 hs
    have := HS6.out d hd
    omega)
  have hwl : ws.length ≤ 100 := by rw [← hws, List.length_map]; exact hl
  have HWSL := Lib.hid hws
  clear hws
  obtain ⟨w0, hw⟩ : ∃ W : World, W = w.alloc (.cells #[.slice A n c, .int .i64 b] 35) := ⟨_, rfl⟩
  have f0 : (w.alloc (.cells #[.slice A n c, .int .i64 b] 35)).cell? ⟨w.heap.size, 0, none⟩ = some (.slice A n c) := HF0.out.c0
  have f1 : (w.alloc (.cells #[.slice A n c, .int .i64 b] 35)).cell? ⟨w.heap.size, 1, none⟩ = some (.int .i64 b) := HF0.out.c1
  rw [← hw] at HF0 HL0
  have HW := Lib.hid hw.symm
  clear hr hs hbA hT hv hin hS hw
  go_enter Tryz.func124, Tryz.ntmps124
  go_wp2_with fail
  rw [HW.out]
  clear HW f0 f1
  refine (HNM.out _ _ _ _ HL0.out (by omega)).mono ?_
  rintro e w1 ⟨Aw, cw, rfl, ho, hb⟩
  have HF1 := Lib.hid (HF0.out.call hb)
  have HL1 := Lib.hid ((HL0.out.below hb).call hb.size)
  have hW1 : Hid (w1.ownsRow w0.heap.size 9 1 (.slice Aw ws.length cw) ws.length (flatS ws)) := Lib.hid ho
  have HZ1 : Hid (w0.heap.size ≤ w1.heap.size) := Lib.hid hb.size
  clear ho hb HL0
  obtain ⟨m, hm⟩ : ∃ m, mMask l = m := ⟨_, rfl⟩
  have HM := Lib.hid hm
  have hm4 : m < 4096 := by rw [← hm]; exact mMask_lt12 HIN.out
  clear hm
  go_wp2_with fail
  refine (implMask_v l _ _ _ _ HL1.out (small40 HIN.out) HM.out).mono ?_
  rintro e w2 ⟨rfl, hb⟩
  have HF2 := Lib.hid (HF1.out.call hb)
  have hW2 := Lib.hid (own_below hW1.out hb)
  have HZ2 : Hid (w0.heap.size ≤ w2.heap.size) := Lib.hid (Nat.le_trans HZ1.out hb.size)
  clear hb HL1 hW1 HF1 HZ1
  have hnl := i64_andNot_nat a m (by omega) (by omega)
  obtain ⟨r, hr⟩ : ∃ r, nl a m = r := ⟨_, rfl⟩
  have HR := Lib.hid hr
  have hr4 : r < 4096 := by rw [← hr]; have := nl_add_and a m; omega
  rw [hr] at hnl
  clear hr
  have HTX : Hid (tx = textW ds (ws ++ restW r)) := Lib.hid (by rw [← HTX0.out]; unfold mText; rw [HWSL.out, HM.out, HR.out])
  have hF2 : Hid (∀ s ∈ ws, s.size ≤ maxLen) := Lib.hid (fun s hs => by have := HOW.out s hs; unfold maxLen; omega)
  clear HWSL HM HR HTX0 HIN HS6 HNM
  by_cases h0 : r = 0
  · subst h0
    have HRW : Hid (ws ++ restW 0 = ws) := Lib.hid (by unfold restW; rw [if_pos rfl, List.append_nil])
    have HTXW : Hid (tx = textW ds ws) := Lib.hid (by rw [HTX.out, HRW.out])
    clear HTX HRW
    by_cases hw0 : ws = []
    · have hpos : ¬ (0 : Int) < (ws.length : Int) := by rw [hw0]; decide
      have HWE := Lib.hid hw0
      clear hw0
      obtain ⟨s, hs⟩ : ∃ s, mExN ds b 0 = s := ⟨_, rfl⟩
      obtain ⟨v, hv⟩ : ∃ v, mExOk ds b 0 = v := ⟨_, rfl⟩
      have HSX := Lib.hid hs
      have HVX := Lib.hid hv
      have HTX : Hid (tx = if v then s else ⟨#[48]⟩) := Lib.hid (by rw [HTXW.out]; unfold textW; rw [if_pos HWE.out, HEX.out, hs, hv])
      clear hs hv
      have e0 := HF2.out.c0
      have e1 := HF2.out.c1
      go_wp2_with fail
      refine (implExact_v ds b 0 _ _ _ _ HF2.out.sd hn ⟨by omega, by omega⟩ HSX.out HVX.out).mono ?_
      rintro e w3 ⟨rfl, hb⟩
      have HB3 := Lib.hid (HF2.out.after hb)
      clear hb e0 e1
      cases v
      · go_wp2
        go_ret
        exact ⟨by rw [HTX.out]; rfl, HB3.out⟩
      · go_wp2
        go_ret
        exact ⟨by rw [HTX.out]; rfl, HB3.out⟩
    · have HNE := Lib.hid hw0
      have hpos : (0 : Int) < (ws.length : Int) := by
        rcases Nat.eq_zero_or_pos ws.length with h | h
        · exact absurd (List.eq_nil_of_length_eq_zero h) hw0
        · omega
      have HSS := Lib.hid (ss_of_own hW2.out hF2.out)
      clear hw0
      go_wp2_with fail
      refine (join_v ws _ _ _ _ HSS.out HNE.out (by omega) HOW.out).mono ?_
      rintro e w3 ⟨rfl, hb⟩
      have HB3 := Lib.hid (HF2.out.after hb)
      clear hb
      go_wp2
      go_ret
      exact ⟨by rw [HTXW.out]; unfold textW; rw [if_neg HNE.out]; first | done | rfl, HB3.out⟩
  · have h01 : ((r : Int) == 0) = false := by rw [beq_eq_false_iff_ne]; omega
    have HRW : Hid (restW r = [decB r]) := Lib.hid (by unfold restW; rw [if_neg h0])
    have hz8 : (decB r).size ≤ 8 := decB_size 7 r (by omega)
    have HIT : Hid (itoaB (r : Int) = decB r) := Lib.hid (itoaB_pos r)
    obtain ⟨t, ht⟩ : ∃ t, decB r = t := ⟨_, rfl⟩
    rw [ht] at HRW hz8 HIT
    clear ht h0
    have HTXW : Hid (tx = textW ds (ws ++ [t])) := Lib.hid (by rw [HTX.out, HRW.out])
    clear HTX HRW
    go_wp2_with fail
    refine (itoa_v r (by omega) (by omega) _ (HT.out.below (HF2.out.bel) hG)).mono ?_
    rintro e w3 ⟨rfl, hb⟩
    rw [HIT.out]
    have HF3 := Lib.hid (HF2.out.call hb)
    have hW3 := Lib.hid (own_below hW2.out hb)
    have HZ3 : Hid (w0.heap.size ≤ w3.heap.size) := Lib.hid (Nat.le_trans HZ2.out hb.size)
    clear hb hW2 HZ2
    go_wp2_with (at_builtin; refine wpList_app_S rfl _ _ rfl w0.heap.size _ _ _ rfl hW3.out _ _ _ rfl rfl (by omega) HZ3.out ?_; intro v' w6 ho6 hb6; obtain ⟨A6, c6, rfl⟩ := own_form ho6; have HO6 := Lib.hid ho6; have HB6 := Lib.hid hb6; clear ho6 hb6)
    have HNE : Hid (ws ++ [t] ≠ []) := Lib.hid (by intro e; have := congrArg List.length e; simp at this)
    have HSS : Hid (SS w6 w6.heap.size A6 (ws.length + 1) c6 (ws ++ [t])) := Lib.hid (by
      have h := HO6.out
      have e : (flatS ws ++ [.string t] : List Value) = flatS (ws ++ [t]) := by unfold flatS; rw [List.map_append]; rfl
      rw [e] at h
      exact ss_of_own h (fun s hs => by
        rcases List.mem_append.1 hs with h | h
        · exact hF2.out s h
        · rw [List.mem_singleton.1 h]; unfold maxLen; omega))
    have HS9 : Hid (∀ s ∈ ws ++ [t], s.size ≤ 8) := Lib.hid (fun s hs => by
      rcases List.mem_append.1 hs with h | h
      · exact HOW.out s h
      · rw [List.mem_singleton.1 h]; exact hz8)
    have HB7 : Hid (Below w.heap.size w w6) := Lib.hid (HF3.out.bel.trans (HB6.out.mono HF0.out.bel.size))
    go_wp2_with fail
    refine (join_v (ws ++ [t]) _ _ _ _ HSS.out HNE.out (by simp; omega) HS9.out).mono ?_
    rintro e w7 ⟨rfl, hb⟩
    have HB8 : Hid (Below w.heap.size w w7) := Lib.hid (HB7.out.trans (hb.mono HB7.out.size))
    clear hb
    go_wp2
    go_ret
    exact ⟨by rw [HTXW.out]; unfold textW; rw [if_neg HNE.out]; first | done | rfl, HB8.out⟩
end Go.Proofs.YtiebdhbioccogaaGreatDoor

namespace Go.Proofs.YtiebdhbioccogaaGreatDoor
open Go.RowKit
set_option linter.unusedVariables false
set_option linter.unusedSimpArgs false
set_option maxRecDepth 100000

/-! ### what the library's readers look up -/
structure RT (w : World) (B : Nat) : Prop where
  p10 : P10 w
  syn : ∃ tp p, w.cell? ⟨2, 0, none⟩ = some (.iface tp p)
  rng : ∃ tp p, w.cell? ⟨3, 0, none⟩ = some (.iface tp p)
  mln : ∃ m : Int, w.cell? ⟨1, 0, none⟩ = some (.int .i64 m)
  lp : p10G < B
  ls : 2 < B
  lr : 3 < B
  lm : 1 < B
theorem RT.below {w w' : World} {B : Nat} (h : RT w B) (hb : Below B w w') : RT w' B := by
  obtain ⟨tp, p, h1⟩ := h.syn
  obtain ⟨tq, q, h2⟩ := h.rng
  obtain ⟨m, h3⟩ := h.mln
  exact ⟨h.p10.below hb h.lp, ⟨tp, p, (hb.cell (p := ⟨2, 0, none⟩) h.ls).trans h1⟩, ⟨tq, q, (hb.cell (p := ⟨3, 0, none⟩) h.lr).trans h2⟩, ⟨m, (hb.cell (p := ⟨1, 0, none⟩) h.lm).trans h3⟩, h.lp, h.ls, h.lr, h.lm⟩
theorem RT.more {w : World} {B B' : Nat} (h : RT w B) (hB : B ≤ B') : RT w B' :=
  ⟨h.p10, h.syn, h.rng, h.mln, Nat.lt_of_lt_of_le h.lp hB, Nat.lt_of_lt_of_le h.ls hB, Nat.lt_of_lt_of_le h.lr hB, Nat.lt_of_lt_of_le h.lm hB⟩
theorem RT.call {w w' : World} (h : RT w w.heap.size) (hb : Below w.heap.size w w') : RT w' w'.heap.size := (h.below hb).more hb.size

/-! ### strings.Split at one byte -/
theorem split_any (s : ByteArray) (c : UInt8) (w : World) (hs : s.size ≤ 1048576) (hT : RT w w.heap.size) :
    Calls Tryz.prog 54 #[.string s, .string ⟨#[c]⟩] w (StrsP (splitT c s) w) := by
  obtain ⟨m, hm⟩ := hT.mln
  refine (Tryz.strings_Split s ⟨#[c]⟩ m w (by omega) hm (Nat.le_refl 1)).mono ?_
  rintro e w' ⟨rfl, rfl⟩
  have hl := splitT_len c s
  rw [splitT_B, splitT_count]
  have h0 : Below w.heap.size w (w.alloc (.cells ((splitT c s).map Value.string).toArray 9)) := (Below.refl _ _).alloc (Nat.le_refl _) _
  refine ⟨some ⟨w.heap.size, 0, none⟩, (splitT c s).length, rfl, ?_, h0⟩
  have hz : (flatS (splitT c s)).length = (splitT c s).length := flatS_length _
  exact ⟨by rw [hz, Nat.mul_one], .inr ⟨w.heap.size, (splitT c s).length, ((splitT c s).map Value.string).toArray, rfl, Nat.le_refl _, heap_alloc_new w _, Nat.le_refl _, by unfold maxLen; omega, by simp, by simp [flatS, List.take_of_length_le]⟩⟩

/-! ### the program's reading of a number -/
theorem num_case (s : ByteArray) : (numOf s = none ∧ mRdN s = -1) ∨ (∃ v : Int, numOf s = some v ∧ v < 0 ∧ mRdN s = -1) ∨ (∃ v : Int, numOf s = some v ∧ 4095 < v ∧ ¬ (0 ≤ mRdN s ∧ mRdN s ≤ 4095)) ∨ (∃ n : Nat, numOf s = some (n : Int) ∧ n ≤ 4095 ∧ mRdN s = n) := by
  rcases mRdN_cases s with h | ⟨n, hn, _, h⟩
  · cases e : numOf s with
    | none => exact .inl ⟨rfl, h⟩
    | some v =>
      by_cases h1 : v < 0
      · exact .inr (.inl ⟨v, rfl, h1, h⟩)
      · by_cases h2 : 4095 < v
        · exact .inr (.inr (.inl ⟨v, rfl, h2, by omega⟩))
        · obtain ⟨n, rfl⟩ : ∃ n : Nat, v = n := ⟨v.toNat, by omega⟩
          have := (numOf_iff s n (by omega)).1 e
          omega
  · have e := (numOf_iff s n hn).2 h
    by_cases h2 : n ≤ 4095
    · exact .inr (.inr (.inr ⟨n, e, h2, h⟩))
    · exact .inr (.inr (.inl ⟨n, e, by omega, by omega⟩))
set_option maxHeartbeats 4000000 in
theorem implRdN_some (s : ByteArray) (w : World) (hs : s.size ≤ 1048576) (hT : RT w w.heap.size) {v : Int} (hv : numOf s = some v) :
    Calls Tryz.prog 91 #[.string s] w fun e w' => e = .returned (.tuple #[.int .i64 v, .bool true]) ∧ Below w.heap.size w w' := by
  obtain ⟨hsv, hb0, hb1⟩ := numOf_some hv
  have hA : Lib.atoiAll s.data.toList = .ok v := by
    unfold numOf at hv
    split at hv
    · rename_i u hu
      split at hv
      · cases hv; exact hu
      · cases hv
    · cases hv
  have e2 : ((itoaB v).toList == s.toList) = true := nm_true hsv.symm
  have HAT := Lib.hid (Tryz.strconv_Atoi_ok s (by omega) v hA w)
  have HIT := Lib.hid (fun w h => itoa_v v hb0 hb1 w h)
  have HT := Lib.hid hT
  generalize itoaB v = t at *
  clear hv hsv hA hT
  go_enter Tryz.func91, Tryz.ntmps91
  go_wp2_with fail
  refine HAT.out.mono ?_
  rintro e w1 ⟨rfl, hw⟩
  have hb : Below w.heap.size w w1 := by
    rcases hw with rfl | ⟨t, rfl⟩
    · exact Below.refl _ _
    · exact Lib.bytesWorld_below _ _ _
  have HB1 := Lib.hid hb
  clear hw hb HAT
  go_wp2_with (go_at_call 94; refine (HIT.out _ (HT.out.below HB1.out).p10).mono ?_; rintro e w2 ⟨rfl, hb⟩; have HB2 : Hid (Below w.heap.size w w2) := Lib.hid (HB1.out.trans (hb.mono HB1.out.size)); clear hb)
  go_ret2
  exact ⟨rfl, HB2.out⟩
set_option maxHeartbeats 4000000 in
theorem implRdN_none (s : ByteArray) (w : World) (hs : s.size ≤ 1048576) (hT : RT w w.heap.size) (hv : numOf s = none) :
    Calls Tryz.prog 91 #[.string s] w fun e w' => e = .returned (.tuple #[.int .i64 0, .bool false]) ∧ Below w.heap.size w w' := by
  have HT := Lib.hid hT
  cases hA : Lib.atoiAll s.data.toList with
  | ok v =>
    obtain ⟨hb0, hb1⟩ := Lib.atoiAll_bounds hA
    have hne : itoaB v ≠ s := by
      intro e
      unfold numOf at hv
      rw [hA] at hv
      simp only at hv
      rw [if_pos e] at hv
      cases hv
    have e2 : ((itoaB v).toList == s.toList) = false := nm_false hne
    have HAT := Lib.hid (Tryz.strconv_Atoi_ok s (by omega) v hA w)
    have HIT := Lib.hid (fun w h => itoa_v v hb0 hb1 w h)
    generalize itoaB v = t at *
    clear hv hA hT hne
    go_enter Tryz.func91, Tryz.ntmps91
    go_wp2_with fail
    refine HAT.out.mono ?_
    rintro e w1 ⟨rfl, hw⟩
    have hb : Below w.heap.size w w1 := by
      rcases hw with rfl | ⟨t, rfl⟩
      · exact Below.refl _ _
      · exact Lib.bytesWorld_below _ _ _
    have HB1 := Lib.hid hb
    clear hw hb HAT
    go_wp2_with (go_at_call 94; refine (HIT.out _ (HT.out.below HB1.out).p10).mono ?_; rintro e w2 ⟨rfl, hb⟩; have HB2 : Hid (Below w.heap.size w w2) := Lib.hid (HB1.out.trans (hb.mono HB1.out.size)); clear hb)
    go_ret2
    exact ⟨rfl, HB2.out⟩
  | range =>
    obtain ⟨tp, p, hsy⟩ := hT.rng
    have HAT := Lib.hid (Tryz.strconv_Atoi_range s (by omega) hA (.iface tp p) w hsy (.inr ⟨tp, p, rfl⟩))
    obtain ⟨sb0, sb1⟩ := Lib.atoiSat_bounds s.data.toList
    generalize Lib.atoiSat s.data.toList = sat at *
    clear hv hA hT hsy
    go_enter Tryz.func91, Tryz.ntmps91
    go_wp2_with fail
    refine HAT.out.mono ?_
    rintro e w1 ⟨N, rfl, _, _, hb⟩
    have HB1 := Lib.hid hb
    clear hb HAT
    go_wp2
    go_ret2
    exact ⟨rfl, HB1.out⟩
  | _ =>
    obtain ⟨tp, p, hsy⟩ := hT.syn
    have HAT := Lib.hid (Tryz.strconv_Atoi_syntax s (by omega) hA (.iface tp p) w hsy (.inr ⟨tp, p, rfl⟩))
    clear hv hA hT hsy
    go_enter Tryz.func91, Tryz.ntmps91
    go_wp2_with fail
    refine HAT.out.mono ?_
    rintro e w1 ⟨N, rfl, _, _, hb⟩
    have HB1 := Lib.hid hb
    clear hb HAT
    go_wp2
    go_ret2
    exact ⟨rfl, HB1.out⟩

/-! ### the program's reading of a word -/
set_option maxHeartbeats 4000000 in
theorem implWord_yes (ds : List D) (s : ByteArray) (A : Option Addr) (n c : Nat) (w : World) (hr : SD w w.heap.size A n c ds) (hs : s.size ≤ 1048576) (hT : RT w w.heap.size) {y : Nat} (hy : partV ds s = y) (hy4 : y ≤ 4095) :
    Calls Tryz.prog 128 #[.slice A n c, .string s] w fun e w' => e = .returned (.tuple #[.int .i64 y, .bool true]) ∧ Below w.heap.size w w' := by
  obtain rfl := hr.len
  have hl := hr.max
  have hl2 := hr.cap
  unfold maxLen at hl
  have HR := Lib.hid hr
  have HT := Lib.hid hT
  rcases fidx_cases (isNm s) ds with ⟨hx, _⟩ | ⟨k, hk, hx, hp, _⟩
  · have HX := Lib.hid hx
    have e1 := partV_num (ds := ds) (s := s) (by omega)
    have e2 := (numOf_iff s y (by omega)).2 (by omega)
    have HN := Lib.hid (fun w h => implRdN_some s w hs h e2)
    clear hx hr hT e1 e2 hy
    go_enter Tryz.func128, Tryz.ntmps128
    go_wp2_with fail
    refine (indexOfName_v ds s _ _ _ _ HR.out HX.out).mono ?_
    rintro e w1 ⟨rfl, hb⟩
    have HB1 := Lib.hid hb
    clear hb
    go_wp2_with fail
    refine (HN.out _ (HT.out.call HB1.out)).mono ?_
    rintro e w2 ⟨rfl, hb⟩
    have HB2 : Hid (Below w.heap.size w w2) := Lib.hid (HB1.out.trans (hb.mono HB1.out.size))
    clear hb
    go_wp2
    go_ret2
    exact ⟨rfl, HB2.out⟩
  · have HX := Lib.hid hx
    have hM := partV_name hk hx
    have hi1 : (k : Int) < (ds.length : Int) := by omega
    have hyv : ds[k].val = (y : Int) := by omega
    have HYV := Lib.hid hyv
    clear hx hr hp hM hT hy hyv
    go_enter Tryz.func128, Tryz.ntmps128
    go_wp2_with fail
    refine (indexOfName_v ds s _ _ _ _ HR.out HX.out).mono ?_
    rintro e w1 ⟨rfl, hb⟩
    have HB1 := Lib.hid hb
    obtain ⟨b, o, rfl, hbb, d1, d2⟩ := (HR.out.below hb).at_ hk
    rw [HYV.out] at d2
    clear hb
    go_wp2
    go_ret2
    exact ⟨rfl, HB1.out⟩
set_option maxHeartbeats 4000000 in
theorem implWord_no (ds : List D) (s : ByteArray) (A : Option Addr) (n c : Nat) (w : World) (hr : SD w w.heap.size A n c ds) (hin : ∀ d ∈ ds, inR d) (hs : s.size ≤ 1048576) (hT : RT w w.heap.size) (hy : ¬ (0 ≤ partV ds s ∧ partV ds s ≤ 4095)) :
    Calls Tryz.prog 128 #[.slice A n c, .string s] w fun e w' => e = .returned (.tuple #[.int .i64 0, .bool false]) ∧ Below w.heap.size w w' := by
  obtain rfl := hr.len
  have hl := hr.max
  have hl2 := hr.cap
  unfold maxLen at hl
  have HR := Lib.hid hr
  have HT := Lib.hid hT
  rcases fidx_cases (isNm s) ds with ⟨hx, _⟩ | ⟨k, hk, hx, hp, _⟩
  · have HX := Lib.hid hx
    have e1 := partV_num (ds := ds) (s := s) (by omega)
    rw [e1] at hy
    clear hx hr hT
    rcases num_case s with ⟨h1, _⟩ | ⟨v, h1, h2, _⟩ | ⟨v, h1, h2, _⟩ | ⟨v, h1, h2, h3⟩
    · have HN := Lib.hid (fun w h => implRdN_none s w hs h h1)
      clear h1 e1 hy
      go_enter Tryz.func128, Tryz.ntmps128
      go_wp2_with fail
      refine (indexOfName_v ds s _ _ _ _ HR.out HX.out).mono ?_
      rintro e w1 ⟨rfl, hb⟩
      have HB1 := Lib.hid hb
      clear hb
      go_wp2_with fail
      refine (HN.out _ (HT.out.call HB1.out)).mono ?_
      rintro e w2 ⟨rfl, hb⟩
      have HB2 : Hid (Below w.heap.size w w2) := Lib.hid (HB1.out.trans (hb.mono HB1.out.size))
      clear hb
      go_wp2
      go_ret2
      exact ⟨rfl, HB2.out⟩
    · have HN := Lib.hid (fun w h => implRdN_some s w hs h h1)
      clear h1 e1 hy
      go_enter Tryz.func128, Tryz.ntmps128
      go_wp2_with fail
      refine (indexOfName_v ds s _ _ _ _ HR.out HX.out).mono ?_
      rintro e w1 ⟨rfl, hb⟩
      have HB1 := Lib.hid hb
      clear hb
      go_wp2_with fail
      refine (HN.out _ (HT.out.call HB1.out)).mono ?_
      rintro e w2 ⟨rfl, hb⟩
      have HB2 : Hid (Below w.heap.size w w2) := Lib.hid (HB1.out.trans (hb.mono HB1.out.size))
      clear hb
      go_wp2
      go_ret2
      exact ⟨rfl, HB2.out⟩
    · have HN := Lib.hid (fun w h => implRdN_some s w hs h h1)
      have h3 : ¬ v < 0 := by omega
      clear h1 e1 hy
      go_enter Tryz.func128, Tryz.ntmps128
      go_wp2_with fail
      refine (indexOfName_v ds s _ _ _ _ HR.out HX.out).mono ?_
      rintro e w1 ⟨rfl, hb⟩
      have HB1 := Lib.hid hb
      clear hb
      go_wp2_with fail
      refine (HN.out _ (HT.out.call HB1.out)).mono ?_
      rintro e w2 ⟨rfl, hb⟩
      have HB2 : Hid (Below w.heap.size w w2) := Lib.hid (HB1.out.trans (hb.mono HB1.out.size))
      clear hb
      go_wp2
      go_ret2
      exact ⟨rfl, HB2.out⟩
    · exact absurd ⟨by omega, by omega⟩ hy
  · have hM := partV_name hk hx
    have := hin _ (List.getElem_mem hk)
    unfold inR at this
    exact absurd ⟨by omega, by omega⟩ hy

/-! ### the program's ReadValue -/
set_option maxHeartbeats 8000000 in
theorem implRead_v (ds : List D) (b : Int) (s : ByteArray) (A : Option Addr) (m c : Nat) (w : World) (hr : SD w w.heap.size A m c ds) (hn : m ≤ 1048576) (hs : s.size ≤ 1048576) (hT : RT w w.heap.size) {r : Int} {v : Bool} (hm : mRead ds b s = r) (hm2 : mReadOk ds b s = v) :
    Calls Tryz.prog 95 #[.agg #[.slice A m c, .int .i64 b], .string s] w fun e w' => e = .returned (.tuple #[.int .i64 r, .bool v]) ∧ Below w.heap.size w w' := by
  subst hm hm2
  have HF := Lib.hid (FB.start hr b)
  have HT := Lib.hid hT
  clear hr hT
  cases hv : vFlag ds b
  · have HV := Lib.hid hv
    have HM : Hid (mRead ds b s = 0 ∧ mReadOk ds b s = false) := Lib.hid (by unfold mRead mReadOk; rw [hv]; exact ⟨rfl, rfl⟩)
    clear hv
    go_enter Tryz.func95, Tryz.ntmps95
    go_wp2_with fail
    refine (classOf_no ds b _ _ _ _ HF.out.sd hn HV.out).mono ?_
    rintro e w1 ⟨rfl, hb⟩
    have HB1 := Lib.hid (HF.out.after hb)
    have hst := st_nilFunc
    clear hb
    go_wp2
    go_ret2
    exact ⟨by rw [HM.out.1, HM.out.2]; first | done | rfl, HB1.out.alloc HB1.out.size _⟩
  have HV := Lib.hid hv
  have HIN := Lib.hid (vFlag_in hv)
  have hwl := (splitT_len 124 s).1
  have HWS : Hid (∀ x ∈ splitT 124 s, x.size ≤ 1048576) := Lib.hid fun x hx => by have := splitT_size 124 s x hx; omega
  have HSP := Lib.hid (fun w (h : RT w w.heap.size) => split_any s 124 w hs h)
  unfold StrsP at HSP
  have HYES : Hid (∀ o : Nat, rdTo ds (splitT 124 s) 0 = some o → mRead ds b s = (if mIsV ds b (o : Int) then (o : Int) else 0) ∧ mReadOk ds b s = mIsV ds b (o : Int)) := Lib.hid fun o h => by
    unfold mRead mReadOk
    rw [hv, rdV_some h]
    cases mIsV ds b (o : Int)
    · exact ⟨rfl, rfl⟩
    · simp
  have HNO : Hid (rdTo ds (splitT 124 s) 0 = none → mRead ds b s = 0 ∧ mReadOk ds b s = false) := Lib.hid fun h => by
    unfold mRead mReadOk
    rw [hv, rdV_none h]
    exact ⟨rfl, rfl⟩
  clear hv
  obtain ⟨fid, hfid⟩ := bdF_form b
  obtain ⟨wh, hwh⟩ : ∃ wh, mWhole ds b = wh := ⟨_, rfl⟩
  have HFID := Lib.hid hfid
  have HWH := Lib.hid hwh
  clear hfid hwh
  generalize splitT 124 s = ws at *
  generalize mRead ds b s = r at *
  generalize mReadOk ds b s = vv at *
  have HOKS : Hid (∀ x ∈ ws, x.size ≤ maxLen) := Lib.hid fun x hx => by have := HWS.out x hx; unfold maxLen; omega
  go_enter Tryz.func95, Tryz.ntmps95
  go_wp2_with fail
  refine (classOf_x ds b _ _ _ _ HF.out.sd HV.out HFID.out HWH.out).mono ?_
  rintro e w1 ⟨rfl, hb⟩
  have HF1 := Lib.hid (HF.out.call hb)
  have HK := Lib.hid (FC.start HF1.out fid wh)
  have HG := Lib.hid (HF1.out.alloc (.cells #[.slice A m c, .func (.func fid) #[] #[], .int .i64 wh] 175))
  have hst := st_func
  clear hb HF HF1
  go_wp2_with fail
  generalize hW : (w1.alloc (.cells #[.slice A m c, .func (.func fid) #[] #[], .int .i64 wh] 175)) = w2 at *
  generalize hG : w1.heap.size = G at *
  clear hW hG
  refine (HSP.out _ (HT.out.call HG.out.bel)).mono ?_
  rintro e w3 ⟨A3, c3, rfl, ho, hb⟩
  have HF3 := Lib.hid (HG.out.call hb)
  have HK3 := Lib.hid (HK.out.call hb)
  have HS3 := Lib.hid (ss_of_own ho HOKS.out)
  clear ho hb HG HK HSP
  go_wp2_with fail
  go_loopw [8, 23] (fun o i wr => ∃ (k x : Nat), k ≤ ws.length ∧ x < 4096 ∧ i = .int .i64 k ∧ o = .int .i64 x ∧ Hid (rdTo ds ws 0 = rdTo ds (ws.drop k) x) ∧ Hid (FB w wr w.heap.size A m c ds b) ∧ Hid (FC w wr G A m c ds fid wh) ∧ Hid (SS wr wr.heap.size A3 ws.length c3 ws)) (fun _ i _ => ws.length - (intOf i).toNat)
  case atStart => exact ⟨0, 0, Nat.zero_le _, by omega, rfl, rfl, Lib.hid rfl, HF3, HK3, HS3⟩
  case round =>
    clear HF3 HK3 HS3
    obtain ⟨k, x, hk, hx4, rfl, rfl, hst2, hf, hc, hss⟩ := hrel
    have c0 := hc.out.c0
    by_cases hlt : k < ws.length
    · obtain ⟨bb, o, hA, hbb, d1⟩ := hss.out.at_ hlt
      subst hA
      have hi1 : (k : Int) < (ws.length : Int) := by omega
      have hi0 : (0 : Int) ≤ (k : Int) := by omega
      have hz := HWS.out _ (List.getElem_mem hlt)
      have hst3 := hst2.out
      rw [List.drop_eq_getElem_cons hlt, rdTo] at hst3
      have HST := Lib.hid hst3
      clear hst3 hst2
      generalize ws[k] = u at *
      have HTT := Lib.hid (HT.out.call hf.out.bel)
      by_cases hy : 0 ≤ partV ds u ∧ partV ds u ≤ 4095
      · obtain ⟨y, hyn⟩ : ∃ y : Nat, partV ds u = y := ⟨(partV ds u).toNat, by omega⟩
        have hy4 : y ≤ 4095 := by omega
        have hst4 := HST.out
        rw [if_pos hy, hyn, Int.toNat_natCast] at hst4
        obtain ⟨z, hz2⟩ : ∃ z, x ||| y = z := ⟨_, rfl⟩
        have hz4 : z < 4096 := by rw [← hz2]; exact or_lt hx4 (by omega)
        rw [hz2] at hst4
        have HST4 := Lib.hid hst4
        have HZ := Lib.hid hz2
        have HYN := Lib.hid hyn
        clear hst4 hz2 hyn hy HST
        go_wp2_with fail
        refine (implWord_yes ds u _ _ _ _ hc.out.sd hz HTT.out HYN.out hy4).mono ?_
        rintro e w5 ⟨rfl, hb⟩
        have hf5 := Lib.hid (hf.out.call hb)
        have hc5 := Lib.hid (hc.out.call hb)
        have hs5 := Lib.hid ((hss.out.below hb).call hb.size)
        clear hb c0 d1 hf hc hss HTT
        go_wp2_with (go_at_call 129; refine (bsOr_v x y _ hx4 (by omega) HZ.out).mono ?_; rintro e w' ⟨rfl, rfl⟩)
        go_roundw
        case rel => exact ⟨k + 1, z, by omega, hz4, by go_num, rfl, HST4, hf5, hc5, hs5⟩
        case measure => simp [intOf]; omega
      · have hst4 := HST.out
        rw [if_neg hy] at hst4
        have HM := Lib.hid (HNO.out hst4)
        have HWD := Lib.hid (implWord_no ds u _ _ _ _ hc.out.sd HIN.out hz HTT.out hy)
        clear hst4 hy HST
        go_wp2_with fail
        refine HWD.out.mono ?_
        rintro e w5 ⟨rfl, hb⟩
        have HB5 := Lib.hid (hf.out.after hb)
        clear hb c0 d1 hf hc hss HTT HWD
        go_wp2
        go_ret2
        exact ⟨by rw [HM.out.1, HM.out.2]; first | done | rfl, HB5.out⟩
    · obtain rfl : k = ws.length := by omega
      have hi9 : ¬ (ws.length : Int) < (ws.length : Int) := by omega
      have hst3 := hst2.out
      rw [List.drop_eq_nil_of_le (Nat.le_refl _), rdTo] at hst3
      have HM := Lib.hid (HYES.out x hst3)
      obtain ⟨q, hq⟩ : ∃ q, mIsV ds b (x : Int) = q := ⟨_, rfl⟩
      rw [hq] at HM
      have HQ := Lib.hid hq
      have f0 := hf.out.c0
      have f1 := hf.out.c1
      clear hq hst3 hst2
      go_wp2_with fail
      refine (implIsV_v ds b x _ _ _ _ hf.out.sd hn HQ.out).mono ?_
      rintro e w5 ⟨rfl, hb⟩
      have HB5 := Lib.hid (hf.out.after hb)
      clear hb
      cases q
      · go_wp2
        go_ret2
        exact ⟨by rw [HM.out.1, HM.out.2]; rfl, HB5.out⟩
      · go_wp2
        go_ret2
        exact ⟨by rw [HM.out.1, HM.out.2]; rfl, HB5.out⟩
end Go.Proofs.YtiebdhbioccogaaGreatDoor

namespace Go.Proofs.YtiebdhbioccogaaGreatDoor
open Go.RowKit
set_option linter.unusedVariables false
set_option linter.unusedSimpArgs false
set_option maxRecDepth 100000

theorem mShow_no {ds : List D} {b x : Int} (h : mIsV ds b x = false) : mShowV ds b x = ⟨#[]⟩ := by unfold mShowV; rw [h]; rfl
theorem mShowSh_no {ds : List D} {b x : Int} (h : mIsV ds b x = false) : mShowSh ds b x = ⟨#[]⟩ := by unfold mShowSh; rw [h]; rfl
theorem sub_size {ds l : List D} {b : Int} (hv : vFlag ds b = true) (h : ∀ d ∈ l, d ∈ ds) : ∀ s ∈ l.map (·.name), s.size ≤ 8 := by
  intro s hs
  obtain ⟨d, hd, rfl⟩ := List.mem_map.1 hs
  have := flag_name6 hv (h d hd)
  omega
theorem mIn_in {ds : List D} {a : Nat} {d : D} (h : d ∈ mIn ds a) : d ∈ ds := (sgTo_in (List.mem_filter.1 h).1).1
theorem mShort_in {ds : List D} {a : Nat} {d : D} (h : d ∈ mShortL (mFit ds a)) : d ∈ ds := mFit_mem ((mShortL_mem _).2 d h)

/-! ### the program -/
set_option maxHeartbeats 4000000 in
theorem implShowV_any (ds : List D) (b x : Int) (A : Option Addr) (m c : Nat) (w : World) (hr : SD w w.heap.size A m c ds) (hn : m ≤ 1048576) (hT : P10 w) (hG : p10G < w.heap.size) :
    Calls Tryz.prog 93 #[.agg #[.slice A m c, .int .i64 b], .int .i64 x] w fun e w' => e = .returned (.string (mShowV ds b x)) ∧ Below w.heap.size w w' := by
  have HF := Lib.hid (FB.start hr b)
  have HOK := Lib.hid hr.ok
  have HT := Lib.hid hT
  clear hr hT
  cases hv : mIsV ds b x
  · have HV := Lib.hid hv
    have HM := Lib.hid (mShow_no hv)
    clear hv
    go_enter Tryz.func93, Tryz.ntmps93
    go_wp2_with (go_at_call 123; refine (implIsV_v ds b x _ _ _ _ HF.out.sd hn HV.out).mono ?_; rintro e w' ⟨rfl, hb⟩)
    go_ret
    exact ⟨by rw [HM.out]; first | done | rfl, HF.out.after hb⟩
  obtain ⟨p, rfl, hp⟩ := mIsV_nat hv
  have hfl := mIsV_flag hv
  have HV := Lib.hid hv
  have HFL := Lib.hid hfl
  have HM : Hid (mShowV ds b p = mText ds (mIn ds p) p) := Lib.hid (by unfold mShowV; rw [hv, if_pos rfl, Int.toNat_natCast])
  have hl12 := mIn_len ds p
  have HLS : Hid ((mSg ds).length ≤ 1048576) := Lib.hid (by have := mSg_len ds; omega)
  have HIN : Hid (∀ d ∈ mSg ds, inR d) := Lib.hid (mSg_in (vFlag_in hfl))
  have HIN2 : Hid (∀ d ∈ mIn ds p, inR d) := Lib.hid fun d hd => vFlag_in hfl d (mIn_in hd)
  have HS6 : Hid (∀ d ∈ mIn ds p, d.name.size ≤ 6) := Lib.hid fun d hd => flag_name6 hfl (mIn_in hd)
  have HOK2 : Hid (∀ d ∈ mIn ds p, d.ok) := Lib.hid fun d hd => mSg_ok HOK.out d (mWithin_mem hd)
  clear hv hfl
  go_enter Tryz.func93, Tryz.ntmps93
  go_wp2_with fail
  refine (implIsV_v ds b p _ _ _ _ HF.out.sd hn HV.out).mono ?_
  rintro e w1 ⟨rfl, hb⟩
  have HF1 := Lib.hid (HF.out.call hb)
  have c0 := HF1.out.c0
  have c1 := HF1.out.c1
  clear hb HF
  go_wp2_with fail
  go_region_held3 (fun w' => w'.cell? ⟨w.heap.size, 0, none⟩ = some (.slice A m c) ∧ w'.cell? ⟨w.heap.size, 1, none⟩ = some (.int .i64 b))
    (first | go_keep | exact ⟨c0, c1⟩ | exact ⟨k0, k1⟩ | exact ⟨l0, l1⟩ | exact ⟨m0, m1⟩)
    (first
    | (go_at_call 125; refine (implSg_any ds _ _ _ _ (HF1.out.drewN 1).sd).mono ?_; rintro e w2 ⟨A2, q2, rfl, ho, hb⟩; replace hb : Below w1.heap.size w1 w2 := (by first | exact hb | exact undrew hb); have HF2 := Lib.hid (HF1.out.call hb); have HS2 := Lib.hid (sd_of_own ho (mSg_ok HOK.out)); have k0 := HF2.out.c0; have k1 := HF2.out.c1; clear ho hb)
    | (go_at_call 126; refine (implWithin_any (mSg ds) p _ _ _ _ HS2.out HIN.out HLS.out hp).mono ?_; rintro e w3 ⟨A3, q3, rfl, ho, hb⟩; have HF3 := Lib.hid (HF2.out.call hb); have HS3 := Lib.hid (sd_of_own ho HOK2.out); have l0 := HF3.out.c0; have l1 := HF3.out.c1; clear ho hb)
    | (go_at_call 124; refine (implShown_any ds (mIn ds p) b p _ _ _ _ _ _ _ HF3.out.sd HS3.out hn (mIsV_flag HV.out) HIN2.out hp HS6.out (by omega) (HT.out.below HF3.out.bel hG) (Nat.lt_of_lt_of_le hG HF3.out.bel.size)).mono ?_; rintro e w4 ⟨rfl, hb⟩; have HF4 := Lib.hid (HF3.out.call hb); have m0 := HF4.out.c0; have m1 := HF4.out.c1; clear hb))
  have HB4 := Lib.hid HF4.out.bel
  go_wp2
  go_ret
  rw [HM.out]
  exact ⟨rfl, HB4.out⟩
set_option maxHeartbeats 4000000 in
theorem implShowSh_any (ds : List D) (b x : Int) (A : Option Addr) (m c : Nat) (w : World) (hr : SD w w.heap.size A m c ds) (hn : m ≤ 1048576) (hT : P10 w) (hG : p10G < w.heap.size) :
    Calls Tryz.prog 97 #[.agg #[.slice A m c, .int .i64 b], .int .i64 x] w fun e w' => e = .returned (.string (mShowSh ds b x)) ∧ Below w.heap.size w w' := by
  have HF := Lib.hid (FB.start hr b)
  have HOK := Lib.hid hr.ok
  have HT := Lib.hid hT
  have HLEN := Lib.hid hr.len
  clear hr hT
  cases hv : mIsV ds b x
  · have HV := Lib.hid hv
    have HM := Lib.hid (mShowSh_no hv)
    clear hv
    go_enter Tryz.func97, Tryz.ntmps97
    go_wp2_with (go_at_call 123; refine (implIsV_v ds b x _ _ _ _ HF.out.sd hn HV.out).mono ?_; rintro e w' ⟨rfl, hb⟩)
    go_ret
    exact ⟨by rw [HM.out]; first | done | rfl, HF.out.after hb⟩
  obtain ⟨p, rfl, hp⟩ := mIsV_nat hv
  have hfl := mIsV_flag hv
  have HV := Lib.hid hv
  have HM : Hid (mShowSh ds b p = mText ds (mShortL (mFit ds p)) p) := Lib.hid (by unfold mShowSh; rw [hv, if_pos rfl, Int.toNat_natCast])
  have hl12 : (mShortL (mFit ds p)).length ≤ 12 := by have := (mShortL_mem (mFit ds p)).1; have := mFit_len ds p; have := vFlag_len hfl; omega
  have hm1 : m ≤ 1000 := by have := vFlag_len hfl; have := HLEN.out; omega
  have HIN : Hid (∀ d ∈ ds, inR d) := Lib.hid (vFlag_in hfl)
  have HIN2 : Hid (∀ d ∈ mShortL (mFit ds p), inR d) := Lib.hid fun d hd => vFlag_in hfl d (mShort_in hd)
  have HS6 : Hid (∀ d ∈ mShortL (mFit ds p), d.name.size ≤ 6) := Lib.hid fun d hd => flag_name6 hfl (mShort_in hd)
  clear hv hfl
  go_enter Tryz.func97, Tryz.ntmps97
  go_wp2_with fail
  refine (implIsV_v ds b p _ _ _ _ HF.out.sd hn HV.out).mono ?_
  rintro e w1 ⟨rfl, hb⟩
  have HF1 := Lib.hid (HF.out.call hb)
  have c0 := HF1.out.c0
  have c1 := HF1.out.c1
  clear hb HF
  go_wp2_with fail
  go_region_held3 (fun w' => w'.cell? ⟨w.heap.size, 0, none⟩ = some (.slice A m c) ∧ w'.cell? ⟨w.heap.size, 1, none⟩ = some (.int .i64 b))
    (first | go_keep | exact ⟨c0, c1⟩ | exact ⟨k0, k1⟩ | exact ⟨m0, m1⟩)
    (first
    | (go_at_call 133; refine (shortest_any ds b p _ _ _ _ (HF1.out.drewN 1).sd HIN.out hm1 hp).mono ?_; rintro e w2 ⟨A2, q2, rfl, hs, hb⟩; replace hb : Below w1.heap.size w1 w2 := (by first | exact hb | exact undrew hb); have HF2 := Lib.hid (HF1.out.call hb); have HS2 := Lib.hid hs; have k0 := HF2.out.c0; have k1 := HF2.out.c1; clear hs hb)
    | (go_at_call 124; refine (implShown_any ds (mShortL (mFit ds p)) b p _ _ _ _ _ _ _ HF2.out.sd HS2.out hn (mIsV_flag HV.out) HIN2.out hp HS6.out (by omega) (HT.out.below HF2.out.bel hG) (Nat.lt_of_lt_of_le hG HF2.out.bel.size)).mono ?_; rintro e w4 ⟨rfl, hb⟩; have HF4 := Lib.hid (HF2.out.call hb); have m0 := HF4.out.c0; have m1 := HF4.out.c1; clear hb))
  have HB4 := Lib.hid HF4.out.bel
  go_wp2
  go_ret
  rw [HM.out]
  exact ⟨rfl, HB4.out⟩

/-! ### the model -/
set_option maxHeartbeats 8000000 in
theorem shown_any (ds : List D) (b : Int) (p : Nat) (A : Option Addr) (m c : Nat) (w : World) (hr : SD w w.heap.size A m c ds) (hv : vFlag ds b = true) (hp : p < 4096) :
    Calls Tryz.prog 34 #[.agg #[.slice A m c, .int .i64 b], .int .i64 p] w fun e w' => e = .returned (.string (mText ds (mIn ds p) p)) ∧ Below w.heap.size w w' := by
  have HF := Lib.hid (FB.start hr b)
  have HOK := Lib.hid hr.ok
  clear hr
  have HM : Hid (mText ds (mIn ds p) p = textW ds ((mIn ds p).map (·.name) ++ restW (nl p (mMask (mIn ds p))))) := Lib.hid rfl
  have hl12 := mIn_len ds p
  have HIN2 : Hid (∀ d ∈ mIn ds p, inR d) := Lib.hid fun d hd => vFlag_in hv d (mIn_in hd)
  have HOK2 : Hid (∀ d ∈ mIn ds p, d.ok) := Lib.hid fun d hd => HOK.out d (mIn_in hd)
  have HS8 := Lib.hid (sub_size hv (fun d hd => mIn_in (a := p) hd))
  have HIA := Lib.hid (fun (A : Option Addr) (n c : Nat) (w : World) (hr : SD w w.heap.size A n c ds) => inside_any ds p A n c w hr hp)
  unfold DefsP at HIA
  generalize mIn ds p = l at *
  have HWL : Hid ((l.map (·.name)).length ≤ 100) := Lib.hid (by rw [List.length_map]; omega)
  obtain ⟨k, hk⟩ : ∃ k, mMask l = k := ⟨_, rfl⟩
  have hk4 : k < 4096 := by rw [← hk]; exact mMask_lt12 HIN2.out
  obtain ⟨r, hr⟩ : ∃ r, nl p k = r := ⟨_, rfl⟩
  have hr4 : r < 4096 := by rw [← hr]; exact nl_lt hp
  have HM2 : Hid (mText ds l p = textW ds (l.map (·.name) ++ restW r)) := Lib.hid (by rw [HM.out, hk, hr])
  have HK := Lib.hid hk
  have HR := Lib.hid hr
  clear hk hr HM
  have HOKS : Hid (∀ s ∈ l.map (·.name), s.size ≤ maxLen) := Lib.hid (fun s hs => by have := HS8.out s hs; unfold maxLen; omega)
  have HNM := Lib.hid (fun (A : Option Addr) (n c : Nat) (w : World) (hr : SD w w.heap.size A n c l) (hn : n ≤ 1048576) => namesOf_any l A c n w hr hn)
  unfold StrsP at HNM
  rw [HM2.out]
  clear HM2
  generalize l.map (·.name) = ws at *
  have e0 := HF.out.c0
  have e1 := HF.out.c1
  go_enter Tryz.func34, Tryz.ntmps34
  go_wp2_with fail
  refine (HIA.out _ _ _ _ HF.out.sd).mono ?_
  rintro e w1 ⟨A1, c1, rfl, ho, hb⟩
  have HF1 := Lib.hid (HF.out.call hb)
  have HS1 := Lib.hid (sd_of_own ho HOK2.out)
  have f0 := HF1.out.c0
  clear ho hb HF HIA e0 e1
  go_wp2_with fail
  go_region_held3 (fun w' => w'.cell? ⟨w.heap.size, 0, none⟩ = some (.slice A m c))
    (first | go_keep | exact f0 | exact g0 | exact h0 | exact i0 | exact j0)
    (first
    | (go_at_call 72; refine (HNM.out _ _ _ _ (HS1.out.drewN 1) (by omega)).mono ?_; rintro e w2 ⟨A2, c2, rfl, ho, hb⟩; replace hb : Below w1.heap.size w1 w2 := (by first | exact hb | exact undrew hb); have HF2 := Lib.hid (HF1.out.call hb); have HS2 := Lib.hid ((HS1.out.below hb).call hb.size); have HT2 := Lib.hid (ss_of_own ho HOKS.out); have g0 := HF2.out.c0; clear ho hb)
    | (go_at_call 73; refine (mask_any l _ _ _ _ HS2.out HIN2.out HK.out).mono ?_; rintro e w3 ⟨rfl, rfl⟩; have h0 := HF2.out.c0)
    | (go_at_call 39; refine (less_any p k _ hp hk4 HR.out).mono ?_; rintro e w4 ⟨rfl, rfl⟩; have i0 := HF2.out.c0)
    | (go_at_call 71; refine (withRest_any ds ws r _ _ _ _ _ _ _ HF2.out.sd HT2.out hr4 HS8.out HWL.out).mono ?_; rintro e w5 ⟨rfl, hb⟩; have HF5 := Lib.hid (HF2.out.call hb); have j0 := HF5.out.c0; clear hb))
  have HB5 := Lib.hid HF5.out.bel
  go_wp2
  go_ret
  exact ⟨rfl, HB5.out⟩
set_option maxHeartbeats 8000000 in
theorem specShowSh_any (ds : List D) (b x : Int) (A : Option Addr) (m c : Nat) (w : World) (hr : SD w w.heap.size A m c ds) :
    Calls Tryz.prog 35 #[.agg #[.slice A m c, .int .i64 b], .int .i64 x] w fun e w' => e = .returned (.string (mShowSh ds b x)) ∧ Below w.heap.size w w' := by
  have HF := Lib.hid (FB.start hr b)
  have HOK := Lib.hid hr.ok
  have HLEN := Lib.hid hr.len
  clear hr
  cases hv : mIsV ds b x
  · have HV := Lib.hid hv
    have HM := Lib.hid (mShowSh_no hv)
    clear hv
    go_enter Tryz.func35, Tryz.ntmps35
    go_wp2_with (go_at_call 69; refine (specIsV_v ds b x _ _ _ _ HF.out.sd HV.out).mono ?_; rintro e w' ⟨rfl, hb⟩)
    go_ret
    exact ⟨by rw [HM.out]; first | done | rfl, HF.out.after hb⟩
  obtain ⟨p, rfl, hp⟩ := mIsV_nat hv
  have hfl := mIsV_flag hv
  have HV := Lib.hid hv
  have HM : Hid (mShowSh ds b p = mText ds (mShortL (mFit ds p)) p) := Lib.hid (by unfold mShowSh; rw [hv, if_pos rfl, Int.toNat_natCast])
  have hl12 : (mShortL (mFit ds p)).length ≤ 12 := by have := (mShortL_mem (mFit ds p)).1; have := mFit_len ds p; have := vFlag_len hfl; omega
  have hm1 : m ≤ 1000 := by have := vFlag_len hfl; have := HLEN.out; omega
  have HIN : Hid (∀ d ∈ ds, inR d) := Lib.hid (vFlag_in hfl)
  have HIN2 : Hid (∀ d ∈ mShortL (mFit ds p), inR d) := Lib.hid fun d hd => vFlag_in hfl d (mShort_in hd)
  have HOK2 : Hid (∀ d ∈ mShortL (mFit ds p), d.ok) := Lib.hid fun d hd => HOK.out d (mShort_in hd)
  have HS8 := Lib.hid (sub_size hfl (fun d hd => mShort_in (a := p) hd))
  have HIA := Lib.hid (fun (A : Option Addr) (n c : Nat) (w : World) (hr : SD w w.heap.size A n c ds) (hn : n ≤ 1000) => short_any ds p A n c w hr HIN.out hn hp)
  unfold DefsP at HIA
  clear hv hfl
  generalize mShortL (mFit ds p) = l at *
  have HWL : Hid ((l.map (·.name)).length ≤ 100) := Lib.hid (by rw [List.length_map]; omega)
  obtain ⟨k, hk⟩ : ∃ k, mMask l = k := ⟨_, rfl⟩
  have hk4 : k < 4096 := by rw [← hk]; exact mMask_lt12 HIN2.out
  obtain ⟨r, hr⟩ : ∃ r, nl p k = r := ⟨_, rfl⟩
  have hr4 : r < 4096 := by rw [← hr]; exact nl_lt hp
  have HM2 : Hid (mShowSh ds b p = textW ds (l.map (·.name) ++ restW r)) := Lib.hid (by rw [HM.out]; unfold mText; rw [hk, hr])
  have HK := Lib.hid hk
  have HR := Lib.hid hr
  clear hk hr HM
  have HOKS : Hid (∀ s ∈ l.map (·.name), s.size ≤ maxLen) := Lib.hid (fun s hs => by have := HS8.out s hs; unfold maxLen; omega)
  have HNM := Lib.hid (fun (A : Option Addr) (n c : Nat) (w : World) (hr : SD w w.heap.size A n c l) (hn : n ≤ 1048576) => namesOf_any l A c n w hr hn)
  unfold StrsP at HNM
  rw [HM2.out]
  clear HM2
  generalize l.map (·.name) = ws at *
  go_enter Tryz.func35, Tryz.ntmps35
  go_wp2_with fail
  refine (specIsV_v ds b p _ _ _ _ HF.out.sd HV.out).mono ?_
  rintro e w0 ⟨rfl, hb⟩
  have HF0 := Lib.hid (HF.out.call hb)
  have c0 := HF0.out.c0
  clear hb HF
  go_wp2_with fail
  refine (HIA.out _ _ _ _ HF0.out.sd hm1).mono ?_
  rintro e w1 ⟨A1, c1, rfl, ho, hb⟩
  have HF1 := Lib.hid (HF0.out.call hb)
  have HS1 := Lib.hid (sd_of_own ho HOK2.out)
  have f0 := HF1.out.c0
  clear ho hb HF0 HIA c0
  go_wp2_with fail
  go_region_held3 (fun w' => w'.cell? ⟨w.heap.size, 0, none⟩ = some (.slice A m c))
    (first | go_keep | exact f0 | exact g0 | exact h0 | exact i0 | exact j0)
    (first
    | (go_at_call 72; refine (HNM.out _ _ _ _ (HS1.out.drewN 1) (by omega)).mono ?_; rintro e w2 ⟨A2, c2, rfl, ho, hb⟩; replace hb : Below w1.heap.size w1 w2 := (by first | exact hb | exact undrew hb); have HF2 := Lib.hid (HF1.out.call hb); have HS2 := Lib.hid ((HS1.out.below hb).call hb.size); have HT2 := Lib.hid (ss_of_own ho HOKS.out); have g0 := HF2.out.c0; clear ho hb)
    | (go_at_call 73; refine (mask_any l _ _ _ _ HS2.out HIN2.out HK.out).mono ?_; rintro e w3 ⟨rfl, rfl⟩; have h0 := HF2.out.c0)
    | (go_at_call 39; refine (less_any p k _ hp hk4 HR.out).mono ?_; rintro e w4 ⟨rfl, rfl⟩; have i0 := HF2.out.c0)
    | (go_at_call 71; refine (withRest_any ds ws r _ _ _ _ _ _ _ HF2.out.sd HT2.out hr4 HS8.out HWL.out).mono ?_; rintro e w5 ⟨rfl, hb⟩; have HF5 := Lib.hid (HF2.out.call hb); have j0 := HF5.out.c0; clear hb))
  have HB5 := Lib.hid HF5.out.bel
  go_wp2
  go_ret
  exact ⟨rfl, HB5.out⟩
end Go.Proofs.YtiebdhbioccogaaGreatDoor

