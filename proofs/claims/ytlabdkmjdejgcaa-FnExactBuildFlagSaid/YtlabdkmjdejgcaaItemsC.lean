import Derived.Test.YtlabdkmjdejgcaaItems
import Derived.Test.YtlabdkmjdejgcaaMarkD
namespace Go.Proofs.Ytlabdkmjdejgcaa
open Go.RowKit
set_option linter.unusedVariables false
set_option maxRecDepth 100000

def flatT (ts : List It) : List Value := ts.flatMap encT
theorem flatT_cons (d : It) (r : List It) : flatT (d :: r) = .string d.name :: .bool d.auto :: .int .i64 d.val :: flatT r := by simp [flatT, encT]
theorem flatT_length (ts : List It) : (flatT ts).length = ts.length * 3 := by
  induction ts with
  | nil => rfl
  | cons d r ih => rw [flatT_cons]; simp [ih]; omega
theorem flatT_get (ts : List It) (i : Nat) (h : i < ts.length) : (flatT ts)[i * 3]? = some (.string ts[i].name) ∧ (flatT ts)[i * 3 + 1]? = some (.bool ts[i].auto) ∧ (flatT ts)[i * 3 + 2]? = some (.int .i64 ts[i].val) := by
  induction ts generalizing i with
  | nil => simp at h
  | cons d r ih =>
    rw [flatT_cons]
    cases i with
    | zero => simp
    | succ i =>
      have := ih i (by simpa using h)
      rw [show (i + 1) * 3 = i * 3 + 1 + 1 + 1 from by omega, show i * 3 + 1 + 1 + 1 + 1 = (i * 3 + 1) + 1 + 1 + 1 from rfl, show i * 3 + 1 + 1 + 1 + 2 = (i * 3 + 2) + 1 + 1 + 1 from rfl]
      simpa using this
theorem flatT_snoc (ts : List It) (k : Nat) (h : k < ts.length) : flatT (ts.take (k + 1)) = flatT (ts.take k) ++ [.string ts[k].name, .bool ts[k].auto, .int .i64 ts[k].val] := by
  unfold flatT
  rw [List.take_succ_eq_append_getElem h, List.flatMap_append]
  simp only [List.flatMap_cons, List.flatMap_nil, List.append_nil]
  rfl
theorem info_T : (Try.prog.info? 86).map (fun i => (i.zero, i.size, i.bytes)) = some (some (.agg #[.string ByteArray.empty, .bool false, .int .i64 0]), 3, 32) := by kernel_rfl

/-- An owned row of items reads as a slice of them. -/
theorem st_of_own {w : World} {base n c : Nat} {A : Option Addr} {e : TypeId} {ts : List It} (h : w.ownsRow base e 3 (.slice A n c) n (flatT ts)) (hok : ∀ d ∈ ts, d.ok) : ST w w.heap.size A n c ts := by
  have hl : ts.length = n := by have := h.1; rw [flatT_length] at this; omega
  rcases h.2 with ⟨h1, h2⟩ | ⟨g, cap, cur, h1, hb, hg, hc, hm, hs, ht⟩
  · injection h1 with e1 e2 e3
    exact ⟨.inl (List.eq_nil_of_length_eq_zero (by omega)), hl, by omega, by subst e3; unfold maxLen; omega, hok⟩
  · injection h1 with e1 e2 e3
    subst e1 e3
    refine ⟨.inr ⟨g, 0, rfl, (Array.getElem?_eq_some_iff.1 hg).1, fun i x hi j v hj => ?_⟩, hl, hc, hm, hok⟩
    obtain ⟨hil, rfl⟩ := List.getElem?_eq_some_iff.1 hi
    obtain ⟨q1, q2, q3⟩ := flatT_get ts i hil
    have hc : ∀ j, j < n * 3 → w.cell? ⟨g, j, none⟩ = (flatT ts)[j]? := fun j hj => h.cellAt j hj
    match j, hj with
    | 0, hj =>
      simp [encT] at hj
      subst hj
      rw [show 0 + i * 3 + 0 = i * 3 from by omega, hc _ (by omega)]
      exact q1
    | 1, hj =>
      simp [encT] at hj
      subst hj
      rw [show 0 + i * 3 + 1 = i * 3 + 1 from by omega, hc _ (by omega)]
      exact q2
    | 2, hj =>
      simp [encT] at hj
      subst hj
      rw [show 0 + i * 3 + 2 = i * 3 + 2 from by omega, hc _ (by omega)]
      exact q3
    | j + 3, hj => simp [encT] at hj
theorem take_three {xs : List Value} {k : Nat} {a b c : Value} {ys : List Value} (h : xs.take (k * 3) = ys) (hk : k * 3 + 2 < xs.length) : (((xs.set (k * 3) a).set (k * 3 + 1) b).set (k * 3 + 2) c).take ((k + 1) * 3) = ys ++ [a, b, c] := by
  have e : (k + 1) * 3 = k * 3 + 1 + 1 + 1 := by omega
  rw [e, List.take_succ_eq_append_getElem (by simp; omega), List.take_succ_eq_append_getElem (by simp; omega), List.take_succ_eq_append_getElem (by simp; omega)]
  rw [List.take_set_of_le (by omega), List.take_set_of_le (by omega), List.take_set_of_le (by omega), h]
  simp

set_option maxHeartbeats 1000000 in
theorem toItem_any (s : ByteArray) (a : Bool) (v : Int) (w : World) :
    Calls Try.prog 55 #[.agg #[.string s, .bool a, .int .i64 v]] w fun e w' => e = .returned (.agg #[.string s, .bool a, .int .i64 v]) ∧ Below w.heap.size w w' := by
  go_enter Try.func55, Try.ntmps55
  go_wp2
  exact bodyPost_ret (v := .agg #[.string s, .bool a, .int .i64 v]) (by simp [results, Try.results55, go_sem]) rfl ⟨rfl, by
    refine ((((Below.refl _ _).alloc (Nat.le_refl _) _).alloc (by simp) _).alloc (by simp; omega) _)⟩

set_option maxHeartbeats 1000000 in
theorem eqItem_any (s : ByteArray) (a : Bool) (v : Int) (w : World) :
    Calls Try.prog 59 #[.agg #[.string s, .bool a, .int .i64 v], .agg #[.string s, .bool a, .int .i64 v]] w fun e w' => e = .returned (.bool true) ∧ Below w.heap.size w w' := by
  go_enter Try.func59, Try.ntmps59
  go_wp2
  go_ret
  exact ⟨rfl, ((Below.refl _ _).alloc (Nat.le_refl _) _).alloc (by simp) _⟩

set_option maxHeartbeats 1000000 in
theorem szItem_any (s : ByteArray) (a : Bool) (v left : Int) (w : World) (hs : s.size ≤ maxLen) (h0 : 0 ≤ left) (h1 : left ≤ 1048576) :
    Calls Try.prog 52 #[.agg #[.string s, .bool a, .int .i64 v], .int .i64 left] w fun e w' => SzP left 0 w e w' := by
  unfold maxLen at hs
  by_cases h : left - s.size < 0
  all_goals
    go_enter Try.func52, Try.ntmps52
    go_wp2
    go_ret
    exact ⟨_, rfl, by omega, by omega, fun _ => h0, (Below.refl _ _).alloc (Nat.le_refl _) _⟩

set_option maxHeartbeats 1000000 in
theorem szItemS_any (ts : List It) (A : Option Addr) (c n : Nat) (left : Int) (w : World) (hr : ST w w.heap.size A n c ts) (h0 : 0 ≤ left) (h1 : left ≤ 1048576) :
    Calls Try.prog 21 #[.slice A n c, .int .i64 left] w (SzP left n w) := by
  obtain rfl := hr.len
  have hl := hr.max
  have hl2 := hr.cap
  unfold maxLen at hl
  have HR := Lib.hid hr
  clear hr
  by_cases hlen : left - ts.length < 0
  · go_enter Try.func21, Try.ntmps21
    go_wp2
    go_ret
    exact ⟨_, rfl, by omega, by omega, fun h => absurd h (by omega), Below.refl _ _⟩
  · go_enter Try.func21, Try.ntmps21
    go_wp2
    go_loopw [1, 5] (fun lf i wr => ∃ (k : Nat) (r : Int), k ≤ ts.length ∧ i = .int .i64 k ∧ lf = .int .i64 r ∧ 0 ≤ r ∧ r ≤ left ∧ Hid (Below w.heap.size w wr)) (fun _ i _ => ts.length - (intOf i).toNat)
    case atStart => exact ⟨0, _, Nat.zero_le _, rfl, rfl, by omega, by omega, Lib.hid (Below.refl _ _)⟩
    case round =>
      obtain ⟨k, r, hk, rfl, rfl, hr0, hr1, hbel⟩ := hrel
      by_cases hlt : k < ts.length
      · obtain ⟨b, o, rfl, hb, c1, c2, c3⟩ := (HR.out.below hbel.out).at_ hlt
        have HN := Lib.hid (HR.out.ok _ (List.getElem_mem hlt)).1
        go_wp2_with (go_at_call 52; refine (szItem_any _ _ _ _ _ HN.out (by omega) (by omega)).mono ?_; rintro e w1 ⟨r1, rfl, hq0, hq1, hq2, hb1⟩; have HB1 := Lib.hid hb1; clear hb1 hq2)
        · go_ret
          exact ⟨_, rfl, by omega, by omega, fun h => absurd h (by omega), hbel.out.trans (HB1.out.mono hbel.out.size)⟩
        · go_roundw
          case rel => exact ⟨k + 1, r1, by omega, by go_num, rfl, by omega, by omega, Lib.hid (hbel.out.trans (HB1.out.mono hbel.out.size))⟩
          case measure => simp [intOf]; omega
      · obtain rfl : k = ts.length := by omega
        go_wp2
        go_ret
        exact ⟨_, rfl, by omega, by omega, fun _ => by omega, hbel.out⟩

set_option maxHeartbeats 2000000 in
theorem eqItemS_any (ts : List It) (A A2 : Option Addr) (c c2 n n2 : Nat) (w : World) (hr : ST w w.heap.size A n c ts) (hr2 : ST w w.heap.size A2 n2 c2 ts) :
    Calls Try.prog 25 #[.slice A n c, .slice A2 n2 c2] w fun e w' => e = .returned (.bool true) ∧ Below w.heap.size w w' := by
  obtain rfl := hr.len
  obtain rfl := hr2.len
  have hl := hr.max
  have hl2 := hr.cap
  unfold maxLen at hl
  have HR := Lib.hid hr
  have HR2 := Lib.hid hr2
  clear hr hr2
  go_enter Try.func25, Try.ntmps25
  go_wp2
  go_loopw [5] (fun i wr => ∃ (k : Nat), k ≤ ts.length ∧ i = .int .i64 k ∧ Hid (Below w.heap.size w wr)) (fun i _ => ts.length - (intOf i).toNat)
  case atStart => exact ⟨0, Nat.zero_le _, rfl, Lib.hid (Below.refl _ _)⟩
  case round =>
    obtain ⟨k, hk, rfl, hbel⟩ := hrel
    by_cases hlt : k < ts.length
    · obtain ⟨b, o, rfl, hb, c1, c2, c3⟩ := (HR.out.below hbel.out).at_ hlt
      obtain ⟨b', o', rfl, hb', c1', c2', c3'⟩ := (HR2.out.below hbel.out).at_ hlt
      have hi1 : (k : Int) < (ts.length : Int) := by omega
      go_wp2
      go_still_tail 8, (by kernel_rfl)
      change wpList _ _ _ _ _ wr.drew
      generalize hwd : wr.drew = wd
      have HW := Lib.hid hwd
      clear hwd
      go_wp2_with (go_at_call 59; refine (eqItem_any _ _ _ _).mono ?_; rintro e w1 ⟨rfl, hb1⟩; have HB1 := Lib.hid hb1; clear hb1)
      go_roundw
      case rel => exact ⟨k + 1, by omega, by go_num, Lib.hid (by obtain rfl := HW.out; exact hbel.out.drew.trans (HB1.out.mono hbel.out.size))⟩
      case measure => simp [intOf]; omega
    · obtain rfl : k = ts.length := by omega
      go_wp2
      go_ret
      exact ⟨rfl, hbel.out⟩

def CopyT (n : Nat) (ts : List It) (w : World) (e : Ending) (w' : World) : Prop :=
  ∃ g, e = .returned (.slice (some ⟨g, 0, none⟩) n n) ∧ w'.ownsRow w.heap.size 86 3 (.slice (some ⟨g, 0, none⟩) n n) n (flatT ts) ∧ Below w.heap.size w w'

set_option maxHeartbeats 2000000 in
theorem toItemS_any (ts : List It) (A : Option Addr) (c n : Nat) (w : World) (hr : ST w w.heap.size A n c ts) (hn : n ≤ 1048576) :
    Calls Try.prog 23 #[.slice A n c] w (CopyT n ts w) := by
  obtain rfl := hr.len
  have hl := hr.max
  have hl2 := hr.cap
  unfold maxLen at hl
  have HR := Lib.hid hr
  clear hr
  obtain ⟨i0, hi, hz0, hz1, hz2⟩ := info_parts info_T
  have HI := Lib.hid (And.intro hi (And.intro hz0 (And.intro hz1 hz2)))
  clear hi hz0 hz1 hz2
  go_enter Try.func23, Try.ntmps23
  go_wp2_with (at_make; refine wpList_make_full _ rfl _ _ _ rfl w.heap.size 86 i0 _ 3 Try.underlying43 HI.out.1 HI.out.2.1 HI.out.2.2.1 .i64 .i64 _ _ ts.length rfl rfl rfl rfl (by rw [HI.out.2.2.2]; omega) (by unfold maxLen; omega) (Nat.le_refl _) ?_; intro w0 hown hgrow; have HO := Lib.hid hown; have HG := Lib.hid hgrow; clear hown hgrow)
  have hzz : (madeCells (Value.agg #[.string ByteArray.empty, .bool false, .int .i64 0]).cells (ts.length * 3)).toList.length = ts.length * 3 := HO.out.1
  go_loopw [4] (fun i wr => ∃ (k : Nat) (xs : List Value), k ≤ ts.length ∧ i = .int .i64 k ∧ Hid (wr.ownsRow w.heap.size 86 3 (.slice (some ⟨w.heap.size, 0, none⟩) ts.length ts.length) ts.length xs) ∧ Hid (xs.take (k * 3) = flatT (ts.take k)) ∧ Hid (Below w.heap.size w wr)) (fun i _ => ts.length - (intOf i).toNat)
  case atStart => exact ⟨0, _, Nat.zero_le _, rfl, HO, Lib.hid (by simp [flatT]), Lib.hid ((Below.refl _ _).grown HG.out (Nat.le_refl _) (by simp))⟩
  case round =>
    obtain ⟨k, xs, hk, rfl, hown, htake, hbel⟩ := hrel
    by_cases hlt : k < ts.length
    · obtain ⟨b, o, rfl, hb, c1, c2, c3⟩ := (HR.out.below hbel.out).at_ hlt
      go_wp2_with (go_at_call 55; refine (toItem_any _ _ _ _).mono ?_; rintro e w1 ⟨rfl, hb1⟩; have HB1 := Lib.hid hb1; have HO1 := Lib.hid (own_below hown.out hb1); have hf1 := HO1.out.frozenAt (k * 3); have hf2 := HO1.out.frozenAt (k * 3 + 1); have hf3 := HO1.out.frozenAt (k * 3 + 2); obtain ⟨y1, hx1⟩ := own_cell HO1.out (k * 3) (by omega); obtain ⟨y2, hx2⟩ := own_cell HO1.out (k * 3 + 1) (by omega); obtain ⟨y3, hx3⟩ := own_cell HO1.out (k * 3 + 2) (by omega); clear hb1)
      have hs1 := HO1.out.stored (k * 3) (.string ts[k].name)
      have hs2 := hs1.1.stored (k * 3 + 1) (.bool ts[k].auto)
      have hs3 := hs2.1.stored (k * 3 + 2) (.int .i64 ts[k].val)
      have hgb := hs1.2
      have hgb2 := hs2.2
      have hgb3 := hs3.2
      have hb2 : Below w.heap.size w w1 := hbel.out.trans (HB1.out.mono hbel.out.size)
      go_roundw
      case rel => exact ⟨k + 1, _, by omega, by go_num, Lib.hid hs3.1, Lib.hid (by rw [flatT_snoc ts k hlt]; exact take_three htake.out (by rw [hown.out.1]; omega)), Lib.hid (((hb2.grown hgb hb2.size (fun j hj => by cases hj; exact Nat.le_refl _)).grown hgb2 (by simpa using hb2.size) (fun j hj => by cases hj; exact Nat.le_refl _)).grown hgb3 (by simpa using hb2.size) (fun j hj => by cases hj; exact Nat.le_refl _))⟩
      case measure => simp [intOf]; omega
    · obtain rfl : k = ts.length := by omega
      go_wp2
      go_ret
      refine ⟨_, rfl, ?_, hbel.out⟩
      have e1 : xs = flatT ts := by
        have := htake.out
        rw [List.take_of_length_le (by rw [hown.out.1]; exact Nat.le_refl _), List.take_of_length_le (Nat.le_refl _)] at this
        exact this
      rw [← e1]
      exact hown.out

/-- The row of v has been marked in some way; nothing else that was there has changed. -/
def MarkQ (base : Nat) (e : TypeId) (sz : Nat) (v : Value) (n : Nat) (r : Int) (w : World) (en : Ending) (w' : World) : Prop :=
  en = .returned (.int .i64 r) ∧ (∃ ys, w'.ownsRow base e sz v n ys) ∧ w.grownBy w' v.ownBlock

set_option maxHeartbeats 4000000 in
theorem markItemS_any (k0 : Int) (base : Nat) (A : Option Addr) (c n : Nat) (xs : List Value) (w : World) (h : w.ownsRow base 86 3 (.slice A n c) n xs) (h0 : 0 < k0) (h1 : k0 + 3 * n ≤ 4000000) :
    Calls Try.prog 26 #[.slice A n c, .int .i64 k0] w (MarkQ base 86 3 (.slice A n c) n (k0 + 3 * n) w) := by
  have HO := Lib.hid h
  clear h
  go_enter Try.func26, Try.ntmps26
  go_wp2
  go_loopw [1, 5] (fun kk i wr => ∃ (k : Nat) (ys : List Value), k ≤ n ∧ i = .int .i64 k ∧ kk = .int .i64 (k0 + 3 * k) ∧ Hid (wr.ownsRow base 86 3 (.slice A n c) n ys) ∧ Hid (w.grownBy wr (Value.slice A n c).ownBlock)) (fun _ i _ => n - (intOf i).toNat)
  case atStart => exact ⟨0, xs, Nat.zero_le _, rfl, by simp, HO, Lib.hid (World.grownBy.refl _ _)⟩
  case round =>
    obtain ⟨k, ys, hk, rfl, rfl, hown, hgr⟩ := hrel
    by_cases hlt : k < n
    · obtain ⟨g, rfl, hbg, hgl⟩ := own_addr hown.out (by omega)
      go_wp2_with (go_at_call 44; refine (markText_any (k0 + 3 * k) _ (by omega) (by omega)).mono ?_; rintro e w1 ⟨rfl, hb1⟩; have HB1 := Lib.hid hb1; have HO1 := Lib.hid (own_below hown.out hb1); have hf1 := HO1.out.frozenAt (k * 3); obtain ⟨y1, hx1⟩ := own_cell HO1.out (k * 3) (by omega); have hf2 := HO1.out.frozenAt (k * 3 + 1); obtain ⟨y2, hx2⟩ := own_cell HO1.out (k * 3 + 1) (by omega); have hf3 := HO1.out.frozenAt (k * 3 + 2); obtain ⟨y3, hx3⟩ := own_cell HO1.out (k * 3 + 2) (by omega); clear hb1)
      have hs1 := HO1.out.stored (k * 3) (.string (mk (k0 + 3 * k)))
      have hs2 := hs1.1.stored (k * 3 + 1) (.bool ((k0 + 3 * k + 1) % 3 == 0))
      have hs3 := hs2.1.stored (k * 3 + 2) (.int .i64 (k0 + 3 * k + 1 + 1))
      go_roundw
      case rel => exact ⟨k + 1, _, by omega, by go_num, by first | go_num | (congr 1; push_cast; omega), Lib.hid hs3.1, Lib.hid ((((hgr.out.trans (grown_of_below HB1.out _)).trans hs1.2).trans hs2.2).trans hs3.2)⟩
      case measure => simp [intOf]; omega
    · obtain rfl : k = n := by omega
      go_wp2
      go_ret
      exact ⟨rfl, ⟨ys, hown.out⟩, hgr.out⟩
end Go.Proofs.Ytlabdkmjdejgcaa
