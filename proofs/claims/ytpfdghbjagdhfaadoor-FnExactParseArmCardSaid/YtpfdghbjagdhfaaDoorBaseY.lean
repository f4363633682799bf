import Derived.Test.YtpfdghbjagdhfaaDoorBaseW
import Derived.Test.YtpfdghbjagdhfaaDoorShwP
import Derived.Lib.AppendIntMem
import Derived.Below
import Derived.Test.YtpfdghbjagdhfaaDoorBaseQ
import Derived.Test.YtpfdghbjagdhfaaDoorBaseV
import Derived.Test.YtpfdghbjagdhfaaDoorAlgJ
import Derived.Test.YtpfdghbjagdhfaaDoorBaseE
import Derived.Test.YtpfdghbjagdhfaaDoorBaseX
namespace Go.Proofs.YtpfdghbjagdhfaaDoor
open Go.RowKit
set_option linter.unusedVariables false
set_option maxRecDepth 100000

/-! ### strconv.Itoa -/
def p10G : Nat := 1
/-- The table of powers of ten. -/
def P10 (w : World) : Prop := Lib.TabIs Tryd.prog w "internal/strconv.uint64pow10" .u64 Lib.pow10Tab
theorem P10.below {w w' : World} {B : Nat} (h : P10 w) (hb : Below B w w') (hB : p10G < B) : P10 w' := by
  unfold P10 Lib.TabIs World.var? at *
  rw [show Tryd.prog.globalNamed "internal/strconv.uint64pow10" = some p10G by kernel_rfl] at h ⊢
  simp only [Option.bind_some] at h ⊢
  rw [hb.block _ hB]
  exact h
theorem itoa_v (n : Int) (h0 : -9223372036854775808 ≤ n) (h1 : n ≤ 9223372036854775807) (w : World) (h : P10 w) :
    Calls Tryd.prog 118 #[.int .i64 n] w fun e w' => e = .returned (.string (itoaB n)) ∧ Below w.heap.size w w' := by
  refine (Tryd.strconv_Itoa n h0 h1 w h).mono ?_
  rintro e w' ⟨he, k, os, rfl⟩
  exact ⟨he, Lib.below_grow _ w (Nat.le_refl _) k os⟩
end Go.Proofs.YtpfdghbjagdhfaaDoor

namespace Go.Proofs.YtpfdghbjagdhfaaDoor
open Go.RowKit
set_option linter.unusedVariables false
set_option linter.unusedSimpArgs false
set_option maxRecDepth 100000

/-! ### strings.Join -/
theorem join_v (ss : List ByteArray) (A : Option Addr) (n c : Nat) (w : World) (hr : SS w w.heap.size A n c ss) (hne : ss ≠ []) (hl : ss.length ≤ 200) (hS : ∀ s ∈ ss, s.size ≤ 8) :
    Calls Tryd.prog 75 #[.slice A n c, .string bar] w fun e w' => e = .returned (.string (joinW ss bar)) ∧ Below w.heap.size w w' := by
  obtain rfl := hr.len
  have hcp := hr.cap
  have hpos : 0 < ss.length := by
    rcases Nat.eq_zero_or_pos ss.length with h | h
    · exact absurd (List.eq_nil_of_length_eq_zero h) hne
    · exact h
  obtain ⟨b, o, rfl, hb, _⟩ := hr.at_ hpos
  refine Tryd.strings_Join b o c ss bar w (fun j x hj => ?_) hb (by omega) hcp ?_
  · obtain ⟨hlt, rfl⟩ := List.getElem?_eq_some_iff.1 hj
    obtain ⟨b2, o2, e, _, h⟩ := hr.at_ hlt
    cases e
    exact h
  · have h1 := joinW_size (sep := bar) hS ss.length (Nat.le_refl _)
    rw [List.take_of_length_le (Nat.le_refl _)] at h1
    have h2 : bar.size = 1 := rfl
    rw [h2] at h1
    have h3 : (joinW ss bar).size = (Lib.join (ss.map (·.data.toList)) bar.data.toList).length := by
      show (joinW ss bar).data.size = _
      unfold joinW
      simp
    omega
theorem exact_zero {ds : List D} {b : Int} (hv : vFlag ds b = true) : zeroT ds = if mExOk ds b 0 then mExN ds b 0 else ⟨#[48]⟩ := by
  rcases fidx_cases (isVal 0) ds with ⟨hx, _⟩ | ⟨k, hk, hx, _, _⟩
  · rw [zeroT_no (by omega), if_neg]
    unfold mExOk
    rw [hv, decide_eq_false (by omega)]
    simp
  · obtain ⟨h1, h2⟩ := mEx_yes hv hk hx
    rw [zeroT_yes hk hx, if_pos h1, h2]

/-! ### the program's shown -/
end Go.Proofs.YtpfdghbjagdhfaaDoor

namespace Go.Proofs.YtpfdghbjagdhfaaDoor
open Go.RowKit
set_option linter.unusedVariables false
set_option linter.unusedSimpArgs false
set_option maxRecDepth 100000

/-! ### what the library's readers look up -/
structure RT (w : World) (B : Nat) : Prop where
  p10 : P10 w
  syn : ∃ tp p, w.cell? ⟨4, 0, none⟩ = some (.iface tp p)
  rng : ∃ tp p, w.cell? ⟨5, 0, none⟩ = some (.iface tp p)
  mln : ∃ m : Int, w.cell? ⟨0, 0, none⟩ = some (.int .i64 m)
  lp : p10G < B
  ls : 4 < B
  lr : 5 < B
  lm : 0 < B
theorem RT.below {w w' : World} {B : Nat} (h : RT w B) (hb : Below B w w') : RT w' B := by
  obtain ⟨tp, p, h1⟩ := h.syn
  obtain ⟨tq, q, h2⟩ := h.rng
  obtain ⟨m, h3⟩ := h.mln
  exact ⟨h.p10.below hb h.lp, ⟨tp, p, (hb.cell (p := ⟨4, 0, none⟩) h.ls).trans h1⟩, ⟨tq, q, (hb.cell (p := ⟨5, 0, none⟩) h.lr).trans h2⟩, ⟨m, (hb.cell (p := ⟨0, 0, none⟩) h.lm).trans h3⟩, h.lp, h.ls, h.lr, h.lm⟩
theorem RT.more {w : World} {B B' : Nat} (h : RT w B) (hB : B ≤ B') : RT w B' :=
  ⟨h.p10, h.syn, h.rng, h.mln, Nat.lt_of_lt_of_le h.lp hB, Nat.lt_of_lt_of_le h.ls hB, Nat.lt_of_lt_of_le h.lr hB, Nat.lt_of_lt_of_le h.lm hB⟩
theorem RT.call {w w' : World} (h : RT w w.heap.size) (hb : Below w.heap.size w w') : RT w' w'.heap.size := (h.below hb).more hb.size

/-! ### strings.Split at one byte -/
theorem split_any (s : ByteArray) (c : UInt8) (w : World) (hs : s.size ≤ 1048576) (hT : RT w w.heap.size) :
    Calls Tryd.prog 100 #[.string s, .string ⟨#[c]⟩] w (StrsP (splitT c s) w) := by
  obtain ⟨m, hm⟩ := hT.mln
  refine (Tryd.strings_Split s ⟨#[c]⟩ m w (by omega) hm (Nat.le_refl 1)).mono ?_
  rintro e w' ⟨rfl, rfl⟩
  have hl := splitT_len c s
  rw [splitT_B, splitT_count]
  have h0 : Below w.heap.size w (w.alloc (.cells ((splitT c s).map Value.string).toArray 9)) := (Below.refl _ _).alloc (Nat.le_refl _) _
  refine ⟨some ⟨w.heap.size, 0, none⟩, (splitT c s).length, rfl, ?_, h0⟩
  have hz : (flatS (splitT c s)).length = (splitT c s).length := flatS_length _
  exact ⟨by rw [hz, Nat.mul_one], .inr ⟨w.heap.size, (splitT c s).length, ((splitT c s).map Value.string).toArray, rfl, Nat.le_refl _, heap_alloc_new w _, Nat.le_refl _, by unfold maxLen; omega, by simp, by simp [flatS, List.take_of_length_le]⟩⟩

/-! ### the program's reading of a number -/
theorem num_case (s : ByteArray) : (numOf s = none ∧ mRdN s = -1) ∨ (∃ v : Int, numOf s = some v ∧ v < 0 ∧ mRdN s = -1) ∨ (∃ v : Int, numOf s = some v ∧ 4095 < v ∧ ¬ (0 ≤ mRdN s ∧ mRdN s ≤ 4095)) ∨ (∃ n : Nat, numOf s = some (n : Int) ∧ n ≤ 4095 ∧ mRdN s = n) := by
  rcases mRdN_cases s with h | ⟨n, hn, _, h⟩
  · cases e : numOf s with
    | none => exact .inl ⟨rfl, h⟩
    | some v =>
      by_cases h1 : v < 0
      · exact .inr (.inl ⟨v, rfl, h1, h⟩)
      · by_cases h2 : 4095 < v
        · exact .inr (.inr (.inl ⟨v, rfl, h2, by omega⟩))
        · obtain ⟨n, rfl⟩ : ∃ n : Nat, v = n := ⟨v.toNat, by omega⟩
          have := (numOf_iff s n (by omega)).1 e
          omega
  · have e := (numOf_iff s n hn).2 h
    by_cases h2 : n ≤ 4095
    · exact .inr (.inr (.inr ⟨n, e, h2, h⟩))
    · exact .inr (.inr (.inl ⟨n, e, by omega, by omega⟩))
set_option maxHeartbeats 4000000 in
theorem implRdN_some (s : ByteArray) (w : World) (hs : s.size ≤ 1048576) (hT : RT w w.heap.size) {v : Int} (hv : numOf s = some v) :
    Calls Tryd.prog 141 #[.string s] w fun e w' => e = .returned (.tuple #[.int .i64 v, .bool true]) ∧ Below w.heap.size w w' := by
  obtain ⟨hsv, hb0, hb1⟩ := numOf_some hv
  have hA : Lib.atoiAll s.data.toList = .ok v := by
    unfold numOf at hv
    split at hv
    · rename_i u hu
      split at hv
      · cases hv; exact hu
      · cases hv
    · cases hv
  have e2 : ((itoaB v).toList == s.toList) = true := nm_true hsv.symm
  have HAT := Lib.hid (Tryd.strconv_Atoi_ok s (by omega) v hA w)
  have HIT := Lib.hid (fun w h => itoa_v v hb0 hb1 w h)
  have HT := Lib.hid hT
  generalize itoaB v = t at *
  clear hv hsv hA hT
  go_enter Tryd.func141, Tryd.ntmps141
  go_wp2_with fail
  refine HAT.out.mono ?_
  rintro e w1 ⟨rfl, hw⟩
  have hb : Below w.heap.size w w1 := by
    rcases hw with rfl | ⟨t, rfl⟩
    · exact Below.refl _ _
    · exact Lib.bytesWorld_below _ _ _
  have HB1 := Lib.hid hb
  clear hw hb HAT
  go_wp2_with (go_at_call 118; refine (HIT.out _ (HT.out.below HB1.out).p10).mono ?_; rintro e w2 ⟨rfl, hb⟩; have HB2 : Hid (Below w.heap.size w w2) := Lib.hid (HB1.out.trans (hb.mono HB1.out.size)); clear hb)
  go_ret2
  exact ⟨rfl, HB2.out⟩
set_option maxHeartbeats 4000000 in
theorem implRdN_none (s : ByteArray) (w : World) (hs : s.size ≤ 1048576) (hT : RT w w.heap.size) (hv : numOf s = none) :
    Calls Tryd.prog 141 #[.string s] w fun e w' => e = .returned (.tuple #[.int .i64 0, .bool false]) ∧ Below w.heap.size w w' := by
  have HT := Lib.hid hT
  cases hA : Lib.atoiAll s.data.toList with
  | ok v =>
    obtain ⟨hb0, hb1⟩ := Lib.atoiAll_bounds hA
    have hne : itoaB v ≠ s := by
      intro e
      unfold numOf at hv
      rw [hA] at hv
      simp only at hv
      rw [if_pos e] at hv
      cases hv
    have e2 : ((itoaB v).toList == s.toList) = false := nm_false hne
    have HAT := Lib.hid (Tryd.strconv_Atoi_ok s (by omega) v hA w)
    have HIT := Lib.hid (fun w h => itoa_v v hb0 hb1 w h)
    generalize itoaB v = t at *
    clear hv hA hT hne
    go_enter Tryd.func141, Tryd.ntmps141
    go_wp2_with fail
    refine HAT.out.mono ?_
    rintro e w1 ⟨rfl, hw⟩
    have hb : Below w.heap.size w w1 := by
      rcases hw with rfl | ⟨t, rfl⟩
      · exact Below.refl _ _
      · exact Lib.bytesWorld_below _ _ _
    have HB1 := Lib.hid hb
    clear hw hb HAT
    go_wp2_with (go_at_call 118; refine (HIT.out _ (HT.out.below HB1.out).p10).mono ?_; rintro e w2 ⟨rfl, hb⟩; have HB2 : Hid (Below w.heap.size w w2) := Lib.hid (HB1.out.trans (hb.mono HB1.out.size)); clear hb)
    go_ret2
    exact ⟨rfl, HB2.out⟩
  | range =>
    obtain ⟨tp, p, hsy⟩ := hT.rng
    have HAT := Lib.hid (Tryd.strconv_Atoi_range s (by omega) hA (.iface tp p) w hsy (.inr ⟨tp, p, rfl⟩))
    obtain ⟨sb0, sb1⟩ := Lib.atoiSat_bounds s.data.toList
    generalize Lib.atoiSat s.data.toList = sat at *
    clear hv hA hT hsy
    go_enter Tryd.func141, Tryd.ntmps141
    go_wp2_with fail
    refine HAT.out.mono ?_
    rintro e w1 ⟨N, rfl, _, _, hb⟩
    have HB1 := Lib.hid hb
    clear hb HAT
    go_wp2
    go_ret2
    exact ⟨rfl, HB1.out⟩
  | _ =>
    obtain ⟨tp, p, hsy⟩ := hT.syn
    have HAT := Lib.hid (Tryd.strconv_Atoi_syntax s (by omega) hA (.iface tp p) w hsy (.inr ⟨tp, p, rfl⟩))
    clear hv hA hT hsy
    go_enter Tryd.func141, Tryd.ntmps141
    go_wp2_with fail
    refine HAT.out.mono ?_
    rintro e w1 ⟨N, rfl, _, _, hb⟩
    have HB1 := Lib.hid hb
    clear hb HAT
    go_wp2
    go_ret2
    exact ⟨rfl, HB1.out⟩

/-! ### the program's reading of a word -/

/-! ### the program's ReadValue -/
end Go.Proofs.YtpfdghbjagdhfaaDoor

namespace Go.Proofs.YtpfdghbjagdhfaaDoor
open Go.RowKit
set_option linter.unusedVariables false
set_option linter.unusedSimpArgs false
set_option maxRecDepth 100000

theorem mShow_no {ds : List D} {b x : Int} (h : mIsV ds b x = false) : mShowV ds b x = ⟨#[]⟩ := by unfold mShowV; rw [h]; rfl
theorem mShowSh_no {ds : List D} {b x : Int} (h : mIsV ds b x = false) : mShowSh ds b x = ⟨#[]⟩ := by unfold mShowSh; rw [h]; rfl
theorem sub_size {ds l : List D} {b : Int} (hv : vFlag ds b = true) (h : ∀ d ∈ l, d ∈ ds) : ∀ s ∈ l.map (·.name), s.size ≤ 8 := by
  intro s hs
  obtain ⟨d, hd, rfl⟩ := List.mem_map.1 hs
  have := flag_name6 hv (h d hd)
  omega
theorem mIn_in {ds : List D} {a : Nat} {d : D} (h : d ∈ mIn ds a) : d ∈ ds := (sgTo_in (List.mem_filter.1 h).1).1
theorem mShort_in {ds : List D} {a : Nat} {d : D} (h : d ∈ mShortL (mFit ds a)) : d ∈ ds := mFit_mem ((mShortL_mem _).2 d h)

/-! ### the program -/
/-! ### the model -/
end Go.Proofs.YtpfdghbjagdhfaaDoor

