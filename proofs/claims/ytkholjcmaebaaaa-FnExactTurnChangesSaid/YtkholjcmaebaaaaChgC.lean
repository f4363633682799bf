import Derived.Test.YtkholjcmaebaaaaBaseC
namespace Go.Proofs.Ytkholjcmaebaaaa
open Go.RowKit
set_option linter.unusedVariables false
set_option maxRecDepth 100000

theorem take_four {xs : List Value} {k : Nat} {a b c d : Value} {ys : List Value} (h : xs.take (k * 4) = ys) (hk : k * 4 + 3 < xs.length) : ((((xs.set (k * 4) a).set (k * 4 + 1) b).set (k * 4 + 2) c).set (k * 4 + 3) d).take ((k + 1) * 4) = ys ++ [a, b, c, d] := by
  have e : (k + 1) * 4 = k * 4 + 1 + 1 + 1 + 1 := by omega
  rw [e, List.take_succ_eq_append_getElem (by simp; omega), List.take_succ_eq_append_getElem (by simp; omega), List.take_succ_eq_append_getElem (by simp; omega), List.take_succ_eq_append_getElem (by simp; omega)]
  rw [List.take_set_of_le (by omega), List.take_set_of_le (by omega), List.take_set_of_le (by omega), List.take_set_of_le (by omega), h]
  simp

set_option maxHeartbeats 1000000 in
theorem toChange_any (kd : Int) (s : ByteArray) (ol nw : Int) (w : World) :
    Calls Try.prog 116 #[.agg #[.int .i64 kd, .string s, .int .i64 ol, .int .i64 nw]] w fun e w' => e = .returned (.agg #[.int .i64 kd, .string s, .int .i64 ol, .int .i64 nw]) ∧ Below w.heap.size w w' := by
  go_enter Try.func116, Try.ntmps116
  go_wp2
  exact bodyPost_ret (v := .agg #[.int .i64 kd, .string s, .int .i64 ol, .int .i64 nw]) (by simp [results, Try.results116, go_sem]) rfl ⟨rfl, by
    refine ((((Below.refl _ _).alloc (Nat.le_refl _) _).alloc (by simp) _).alloc (by simp; omega) _)⟩

set_option maxHeartbeats 1000000 in
theorem eqChange_any (kd : Int) (s : ByteArray) (ol nw : Int) (w : World) :
    Calls Try.prog 117 #[.agg #[.int .i64 kd, .string s, .int .i64 ol, .int .i64 nw], .agg #[.int .i64 kd, .string s, .int .i64 ol, .int .i64 nw]] w fun e w' => e = .returned (.bool true) ∧ Below w.heap.size w w' := by
  go_enter Try.func117, Try.ntmps117
  go_wp2
  go_ret
  exact ⟨rfl, ((Below.refl _ _).alloc (Nat.le_refl _) _).alloc (by simp) _⟩

set_option maxHeartbeats 1000000 in
theorem szChange_any (kd : Int) (s : ByteArray) (ol nw left : Int) (w : World) (hs : s.size ≤ maxLen) (h0 : 0 ≤ left) (h1 : left ≤ 1048576) :
    Calls Try.prog 115 #[.agg #[.int .i64 kd, .string s, .int .i64 ol, .int .i64 nw], .int .i64 left] w fun e w' => SzP left 0 w e w' := by
  unfold maxLen at hs
  by_cases h : left - s.size < 0
  all_goals
    go_enter Try.func115, Try.ntmps115
    go_wp2
    go_ret
    exact ⟨_, rfl, by omega, by omega, fun _ => h0, (Below.refl _ _).alloc (Nat.le_refl _) _⟩

set_option maxHeartbeats 1000000 in
theorem szChangeS_any (ts : List Ch) (A : Option Addr) (c n : Nat) (left : Int) (w : World) (hr : SK w w.heap.size A n c ts) (h0 : 0 ≤ left) (h1 : left ≤ 1048576) :
    Calls Try.prog 48 #[.slice A n c, .int .i64 left] w (SzP left n w) := by
  obtain rfl := hr.len
  have hl := hr.max
  have hl2 := hr.cap
  unfold maxLen at hl
  have HR := Lib.hid hr
  clear hr
  by_cases hlen : left - ts.length < 0
  · go_enter Try.func48, Try.ntmps48
    go_wp2
    go_ret
    exact ⟨_, rfl, by omega, by omega, fun h => absurd h (by omega), Below.refl _ _⟩
  · go_enter Try.func48, Try.ntmps48
    go_wp2
    go_loopw [1, 5] (fun lf i wr => ∃ (k : Nat) (r : Int), k ≤ ts.length ∧ i = .int .i64 k ∧ lf = .int .i64 r ∧ 0 ≤ r ∧ r ≤ left ∧ Hid (Below w.heap.size w wr)) (fun _ i _ => ts.length - (intOf i).toNat)
    case atStart => exact ⟨0, _, Nat.zero_le _, rfl, rfl, by omega, by omega, Lib.hid (Below.refl _ _)⟩
    case round =>
      obtain ⟨k, r, hk, rfl, rfl, hr0, hr1, hbel⟩ := hrel
      by_cases hlt : k < ts.length
      · obtain ⟨b, o, rfl, hb, c1, c2, c3, c4⟩ := (HR.out.below hbel.out).at_ hlt
        have HN := Lib.hid (HR.out.ok _ (List.getElem_mem hlt)).1
        go_wp2_with (go_at_call 115; refine (szChange_any _ _ _ _ _ _ HN.out (by omega) (by omega)).mono ?_; rintro e w1 ⟨r1, rfl, hq0, hq1, hq2, hb1⟩; have HB1 := Lib.hid hb1; clear hb1 hq2)
        · go_ret
          exact ⟨_, rfl, by omega, by omega, fun h => absurd h (by omega), hbel.out.trans (HB1.out.mono hbel.out.size)⟩
        · go_roundw
          case rel => exact ⟨k + 1, r1, by omega, by go_num, rfl, by omega, by omega, Lib.hid (hbel.out.trans (HB1.out.mono hbel.out.size))⟩
          case measure => simp [intOf]; omega
      · obtain rfl : k = ts.length := by omega
        go_wp2
        go_ret
        exact ⟨_, rfl, by omega, by omega, fun _ => by omega, hbel.out⟩

set_option maxHeartbeats 2000000 in
theorem eqChangeS_any (ts : List Ch) (A A2 : Option Addr) (c c2 n n2 : Nat) (w : World) (hr : SK w w.heap.size A n c ts) (hr2 : SK w w.heap.size A2 n2 c2 ts) :
    Calls Try.prog 50 #[.slice A n c, .slice A2 n2 c2] w fun e w' => e = .returned (.bool true) ∧ Below w.heap.size w w' := by
  obtain rfl := hr.len
  obtain rfl := hr2.len
  have hl := hr.max
  have hl2 := hr.cap
  unfold maxLen at hl
  have HR := Lib.hid hr
  have HR2 := Lib.hid hr2
  clear hr hr2
  go_enter Try.func50, Try.ntmps50
  go_wp2
  go_loopw [5] (fun i wr => ∃ (k : Nat), k ≤ ts.length ∧ i = .int .i64 k ∧ Hid (Below w.heap.size w wr)) (fun i _ => ts.length - (intOf i).toNat)
  case atStart => exact ⟨0, Nat.zero_le _, rfl, Lib.hid (Below.refl _ _)⟩
  case round =>
    obtain ⟨k, hk, rfl, hbel⟩ := hrel
    by_cases hlt : k < ts.length
    · obtain ⟨b, o, rfl, hb, c1, c2, c3, c4⟩ := (HR.out.below hbel.out).at_ hlt
      obtain ⟨b', o', rfl, hb', c1', c2', c3', c4'⟩ := (HR2.out.below hbel.out).at_ hlt
      have hi1 : (k : Int) < (ts.length : Int) := by omega
      go_wp2
      go_still_tail 8, (by kernel_rfl)
      change wpList _ _ _ _ _ wr.drew
      generalize hwd : wr.drew = wd
      have HW := Lib.hid hwd
      clear hwd
      go_wp2_with (go_at_call 117; refine (eqChange_any _ _ _ _ _).mono ?_; rintro e w1 ⟨rfl, hb1⟩; have HB1 := Lib.hid hb1; clear hb1)
      go_roundw
      case rel => exact ⟨k + 1, by omega, by go_num, Lib.hid (by obtain rfl := HW.out; exact hbel.out.drew.trans (HB1.out.mono hbel.out.size))⟩
      case measure => simp [intOf]; omega
    · obtain rfl : k = ts.length := by omega
      go_wp2
      go_ret
      exact ⟨rfl, hbel.out⟩

def CopyK (n : Nat) (ts : List Ch) (w : World) (e : Ending) (w' : World) : Prop :=
  ∃ g, e = .returned (.slice (some ⟨g, 0, none⟩) n n) ∧ w'.ownsRow w.heap.size 137 4 (.slice (some ⟨g, 0, none⟩) n n) n (ts.flatMap encK) ∧ Below w.heap.size w w'

set_option maxHeartbeats 2000000 in
theorem toChangeS_any (ts : List Ch) (A : Option Addr) (c n : Nat) (w : World) (hr : SK w w.heap.size A n c ts) (hn : n ≤ 1048576) :
    Calls Try.prog 49 #[.slice A n c] w (CopyK n ts w) := by
  obtain rfl := hr.len
  have hl := hr.max
  have hl2 := hr.cap
  unfold maxLen at hl
  have HR := Lib.hid hr
  clear hr
  obtain ⟨i0, hi, hz0, hz1, hz2⟩ := info_parts info_K
  have HI := Lib.hid (And.intro hi (And.intro hz0 (And.intro hz1 hz2)))
  clear hi hz0 hz1 hz2
  go_enter Try.func49, Try.ntmps49
  go_wp2_with (at_make; refine wpList_make_full _ rfl _ _ _ rfl w.heap.size 137 i0 _ 4 Try.underlying54 HI.out.1 HI.out.2.1 HI.out.2.2.1 .i64 .i64 _ _ ts.length rfl rfl rfl rfl (by rw [HI.out.2.2.2]; omega) (by unfold maxLen; omega) (Nat.le_refl _) ?_; intro w0 hown hgrow; have HO := Lib.hid hown; have HG := Lib.hid hgrow; clear hown hgrow)
  have hzz : (madeCells (Value.agg #[.int .i64 0, .string ByteArray.empty, .int .i64 0, .int .i64 0]).cells (ts.length * 4)).toList.length = ts.length * 4 := HO.out.1
  go_loopw [4] (fun i wr => ∃ (k : Nat) (xs : List Value), k ≤ ts.length ∧ i = .int .i64 k ∧ Hid (wr.ownsRow w.heap.size 137 4 (.slice (some ⟨w.heap.size, 0, none⟩) ts.length ts.length) ts.length xs) ∧ Hid (xs.take (k * 4) = flatK (ts.take k)) ∧ Hid (Below w.heap.size w wr)) (fun i _ => ts.length - (intOf i).toNat)
  case atStart => exact ⟨0, _, Nat.zero_le _, rfl, HO, Lib.hid (by simp [flatK]), Lib.hid ((Below.refl _ _).grown HG.out (Nat.le_refl _) (by simp))⟩
  case round =>
    obtain ⟨k, xs, hk, rfl, hown, htake, hbel⟩ := hrel
    by_cases hlt : k < ts.length
    · obtain ⟨b, o, rfl, hb, c1, c2, c3, c4⟩ := (HR.out.below hbel.out).at_ hlt
      go_wp2_with (go_at_call 116; refine (toChange_any _ _ _ _ _).mono ?_; rintro e w1 ⟨rfl, hb1⟩; have HB1 := Lib.hid hb1; have HO1 := Lib.hid (own_below hown.out hb1); have hf1 := HO1.out.frozenAt (k * 4); have hf2 := HO1.out.frozenAt (k * 4 + 1); have hf3 := HO1.out.frozenAt (k * 4 + 2); have hf4 := HO1.out.frozenAt (k * 4 + 3); obtain ⟨y1, hx1⟩ := own_cell HO1.out (k * 4) (by omega); obtain ⟨y2, hx2⟩ := own_cell HO1.out (k * 4 + 1) (by omega); obtain ⟨y3, hx3⟩ := own_cell HO1.out (k * 4 + 2) (by omega); obtain ⟨y4, hx4⟩ := own_cell HO1.out (k * 4 + 3) (by omega); clear hb1)
      have hs1 := HO1.out.stored (k * 4) (.int .i64 ts[k].kind)
      have hs2 := hs1.1.stored (k * 4 + 1) (.string ts[k].name)
      have hs3 := hs2.1.stored (k * 4 + 2) (.int .i64 ts[k].old)
      have hs4 := hs3.1.stored (k * 4 + 3) (.int .i64 ts[k].new)
      have hgb := hs1.2
      have hgb2 := hs2.2
      have hgb3 := hs3.2
      have hgb4 := hs4.2
      have hb2 : Below w.heap.size w w1 := hbel.out.trans (HB1.out.mono hbel.out.size)
      go_roundw
      case rel => exact ⟨k + 1, _, by omega, by go_num, Lib.hid hs4.1, Lib.hid (by rw [flatK_snoc ts k hlt]; exact take_four htake.out (by rw [hown.out.1]; omega)), Lib.hid ((((hb2.grown hgb hb2.size (fun j hj => by cases hj; exact Nat.le_refl _)).grown hgb2 (by simpa using hb2.size) (fun j hj => by cases hj; exact Nat.le_refl _)).grown hgb3 (by simpa using hb2.size) (fun j hj => by cases hj; exact Nat.le_refl _)).grown hgb4 (by simpa using hb2.size) (fun j hj => by cases hj; exact Nat.le_refl _))⟩
      case measure => simp [intOf]; omega
    · obtain rfl : k = ts.length := by omega
      go_wp2
      go_ret
      refine ⟨_, rfl, ?_, hbel.out⟩
      have e1 : xs = ts.flatMap encK := by
        have := htake.out
        rw [List.take_of_length_le (by rw [hown.out.1]; exact Nat.le_refl _), List.take_of_length_le (Nat.le_refl _)] at this
        exact this
      rw [← e1]
      exact hown.out

/-! ### marks -/
def marksK (k0 : Int) (k : Nat) : List Value := (List.range k).flatMap fun i => [.int .i64 (k0 + 4 * (i : Nat)), .string (mk (k0 + 4 * (i : Nat) + 1)), .int .i64 (k0 + 4 * (i : Nat) + 2), .int .i64 (k0 + 4 * (i : Nat) + 3)]
theorem marksK_succ (k0 : Int) (k : Nat) : marksK k0 (k + 1) = marksK k0 k ++ [.int .i64 (k0 + 4 * k), .string (mk (k0 + 4 * k + 1)), .int .i64 (k0 + 4 * k + 2), .int .i64 (k0 + 4 * k + 3)] := by
  unfold marksK; rw [List.range_succ, List.flatMap_append]; simp
theorem marksK_length (k0 : Int) (k : Nat) : (marksK k0 k).length = k * 4 := by
  induction k with
  | zero => rfl
  | succ k ih => rw [marksK_succ]; simp [ih]; omega
theorem marksK_get (k0 : Int) (n k : Nat) (h : k < n) : (marksK k0 n)[k * 4]? = some (.int .i64 (k0 + 4 * k)) ∧ (marksK k0 n)[k * 4 + 1]? = some (.string (mk (k0 + 4 * k + 1))) ∧ (marksK k0 n)[k * 4 + 2]? = some (.int .i64 (k0 + 4 * k + 2)) ∧ (marksK k0 n)[k * 4 + 3]? = some (.int .i64 (k0 + 4 * k + 3)) := by
  induction n with
  | zero => omega
  | succ n ih =>
    rw [marksK_succ]
    by_cases e : k = n
    · subst e
      rw [List.getElem?_append_right (by rw [marksK_length]; omega), List.getElem?_append_right (by rw [marksK_length]; omega), List.getElem?_append_right (by rw [marksK_length]; omega), List.getElem?_append_right (by rw [marksK_length]; omega), marksK_length]
      simp
    · rw [List.getElem?_append_left (by rw [marksK_length]; omega), List.getElem?_append_left (by rw [marksK_length]; omega), List.getElem?_append_left (by rw [marksK_length]; omega), List.getElem?_append_left (by rw [marksK_length]; omega)]
      exact ih (by omega)

set_option maxHeartbeats 4000000 in
theorem markChangeS_any (k0 : Int) (base : Nat) (A : Option Addr) (c n : Nat) (xs : List Value) (w : World) (h : w.ownsRow base 137 4 (.slice A n c) n xs) (h0 : 0 < k0) (h1 : k0 + 4 * n ≤ 7000000) :
    Calls Try.prog 51 #[.slice A n c, .int .i64 k0] w (MarkP base 137 4 (.slice A n c) n (k0 + 4 * n) (marksK k0 n) w) := by
  have HO := Lib.hid h
  clear h
  go_enter Try.func51, Try.ntmps51
  go_wp2
  go_loopw [1, 5] (fun kk i wr => ∃ (k : Nat) (ys : List Value), k ≤ n ∧ i = .int .i64 k ∧ kk = .int .i64 (k0 + 4 * k) ∧ Hid (wr.ownsRow base 137 4 (.slice A n c) n ys) ∧ Hid (ys.take (k * 4) = marksK k0 k) ∧ Hid (w.grownBy wr (Value.slice A n c).ownBlock)) (fun _ i _ => n - (intOf i).toNat)
  case atStart => exact ⟨0, xs, Nat.zero_le _, rfl, by simp, HO, Lib.hid rfl, Lib.hid (World.grownBy.refl _ _)⟩
  case round =>
    obtain ⟨k, ys, hk, rfl, rfl, hown, htake, hgr⟩ := hrel
    by_cases hlt : k < n
    · obtain ⟨g, rfl, hbg, hgl⟩ := own_addr hown.out (by omega)
      have HM := Lib.hid (marksK_succ k0 k)
      have HL := Lib.hid hown.out.1
      have hf0 := hown.out.frozenAt (k * 4)
      obtain ⟨y0, hx0⟩ := own_cell hown.out (k * 4) (by omega)
      have hs1 := hown.out.stored (k * 4) (.int .i64 (k0 + 4 * k))
      have HS1 := Lib.hid hs1
      have HSZ := Lib.hid (show ys.length = n * 4 from hown.out.1)
      clear hs1
      go_wp2_with (go_at_call 118; refine (markText_any (k0 + 4 * k + 1) _ (by omega) (by omega)).mono ?_; rintro e w1 ⟨rfl, hb1⟩; have HB1 := Lib.hid hb1; have HO1 := Lib.hid (own_below HS1.out.1 hb1); have hf1 := HO1.out.frozenAt (k * 4 + 1); obtain ⟨y1, hx1⟩ := own_cell HO1.out (k * 4 + 1) (by omega); have hf2 := HO1.out.frozenAt (k * 4 + 2); obtain ⟨y2, hx2⟩ := own_cell HO1.out (k * 4 + 2) (by omega); have hf3 := HO1.out.frozenAt (k * 4 + 3); obtain ⟨y3, hx3⟩ := own_cell HO1.out (k * 4 + 3) (by omega); clear hb1)
      have hs2 := HO1.out.stored (k * 4 + 1) (.string (mk (k0 + 4 * k + 1)))
      have hs3 := hs2.1.stored (k * 4 + 2) (.int .i64 (k0 + 4 * k + 2))
      have hs4 := hs3.1.stored (k * 4 + 3) (.int .i64 (k0 + 4 * k + 3))
      rw [show k0 + 4 * (k : Int) + 1 + 1 = k0 + 4 * (k : Int) + 2 from by omega] at *
      rw [show k0 + 4 * (k : Int) + 2 + 1 = k0 + 4 * (k : Int) + 3 from by omega] at *
      go_roundw
      case rel => exact ⟨k + 1, _, by omega, by go_num, by first | go_num | (congr 1; push_cast; omega), Lib.hid hs4.1, Lib.hid (by rw [HM.out]; exact take_four htake.out (by rw [HL.out]; omega)), Lib.hid (((((hgr.out.trans HS1.out.2).trans (grown_of_below HB1.out _)).trans hs2.2).trans hs3.2).trans hs4.2)⟩
      case measure => simp [intOf]; omega
    · obtain rfl : k = n := by omega
      go_wp2
      go_ret
      refine ⟨rfl, ?_, hgr.out⟩
      have e1 := htake.out
      rw [List.take_of_length_le (by rw [hown.out.1]; omega)] at e1
      rw [← e1]
      exact hown.out

set_option maxHeartbeats 4000000 in
theorem heldChangeS_any (k0 : Int) (base : Nat) (A : Option Addr) (c n : Nat) (w : World) (h : w.ownsRow base 137 4 (.slice A n c) n (marksK k0 n)) (h0 : 0 < k0) (h1 : k0 + 4 * n ≤ 7000000) :
    Calls Try.prog 52 #[.slice A n c, .int .i64 k0] w (HeldP (k0 + 4 * n) w) := by
  have HO := Lib.hid h
  clear h
  go_enter Try.func52, Try.ntmps52
  go_wp2
  go_loopw [1, 5] (fun kk i wr => ∃ (k : Nat), k ≤ n ∧ i = .int .i64 k ∧ kk = .int .i64 (k0 + 4 * k) ∧ Hid (Below w.heap.size w wr)) (fun _ i _ => n - (intOf i).toNat)
  case atStart => exact ⟨0, Nat.zero_le _, rfl, by simp, Lib.hid (Below.refl _ _)⟩
  case round =>
    obtain ⟨k, hk, rfl, rfl, hbel⟩ := hrel
    by_cases hlt : k < n
    · have HOr := Lib.hid (own_below HO.out hbel.out)
      obtain ⟨g, rfl, hbg, hgl⟩ := own_addr HOr.out (by omega)
      have hx0 : wr.cell? ⟨g, k * 4, none⟩ = some (.int .i64 (k0 + 4 * k)) := by rw [HOr.out.cellAt (k * 4) (by omega)]; exact (marksK_get k0 n k hlt).1
      have hx1 : wr.cell? ⟨g, k * 4 + 1, none⟩ = some (.string (mk (k0 + 4 * k + 1))) := by rw [HOr.out.cellAt (k * 4 + 1) (by omega)]; exact (marksK_get k0 n k hlt).2.1
      have hy1 : wr.cell? ⟨g, k * 4 + 2, none⟩ = some (.int .i64 (k0 + 4 * k + 1 + 1)) := by rw [HOr.out.cellAt (k * 4 + 2) (by omega), show k0 + 4 * (k : Int) + 1 + 1 = k0 + 4 * k + 2 by omega]; exact (marksK_get k0 n k hlt).2.2.1
      have hz1 : wr.cell? ⟨g, k * 4 + 3, none⟩ = some (.int .i64 (k0 + 4 * k + 1 + 1 + 1)) := by rw [HOr.out.cellAt (k * 4 + 3) (by omega), show k0 + 4 * (k : Int) + 1 + 1 + 1 = k0 + 4 * k + 3 by omega]; exact (marksK_get k0 n k hlt).2.2.2
      have hi1 : (k : Int) < (n : Int) := by omega
      have hi0 : (0 : Int) ≤ (k : Int) := by omega
      go_wp2_with fail
      go_region_held3 (fun w' => w'.cell? ⟨g, k * 4 + 1, none⟩ = some (.string (mk (k0 + 4 * k + 1)))) (first | go_keep | exact x2 | exact hx1)
        (first | (go_at_call 118; refine (markText_any (k0 + 4 * k + 1) _ (by omega) (by omega)).mono ?_; rintro e w1 ⟨rfl, hb1⟩; replace hb1 : Below wr.heap.size wr w1 := (by first | exact hb1 | exact undrew hb1); have x2 := keep1 hb1 hx1; have y2 := keep1 hb1 hy1; have z2 := keep1 hb1 hz1))
      have HB1 := Lib.hid hb1
      clear hb1 x2 hx1 hy1 hz1 hx0
      go_wp2
      go_roundw
      case rel => exact ⟨k + 1, by omega, by go_num, by first | go_num | (congr 1; push_cast; omega), Lib.hid (hbel.out.trans (HB1.out.mono hbel.out.size))⟩
      case measure => simp [intOf]; omega
    · obtain rfl : k = n := by omega
      go_wp2
      go_ret
      exact ⟨rfl, hbel.out⟩
end Go.Proofs.Ytkholjcmaebaaaa
