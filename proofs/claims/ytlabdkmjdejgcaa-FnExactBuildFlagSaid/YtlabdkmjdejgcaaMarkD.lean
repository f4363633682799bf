import Derived.Test.YtlabdkmjdejgcaaMarkS
namespace Go.Proofs.Ytlabdkmjdejgcaa
open Go.RowKit
set_option linter.unusedVariables false
set_option maxRecDepth 100000

/-! ### rows of definitions -/
def marksD (k0 : Int) (k : Nat) : List Value := (List.range k).flatMap fun i => [.string (mk (k0 + 2 * (i : Nat))), .int .i64 (k0 + 2 * (i : Nat) + 1)]
theorem marksD_succ (k0 : Int) (k : Nat) : marksD k0 (k + 1) = marksD k0 k ++ [.string (mk (k0 + 2 * k)), .int .i64 (k0 + 2 * k + 1)] := by
  unfold marksD; rw [List.range_succ, List.flatMap_append]; simp
theorem marksD_length (k0 : Int) (k : Nat) : (marksD k0 k).length = k * 2 := by
  induction k with
  | zero => rfl
  | succ k ih => rw [marksD_succ]; simp [ih]; omega
theorem marksD_get (k0 : Int) (n k : Nat) (h : k < n) : (marksD k0 n)[k * 2]? = some (.string (mk (k0 + 2 * k))) ∧ (marksD k0 n)[k * 2 + 1]? = some (.int .i64 (k0 + 2 * k + 1)) := by
  induction n with
  | zero => omega
  | succ n ih =>
    rw [marksD_succ]
    by_cases e : k = n
    · subst e
      rw [List.getElem?_append_right (by rw [marksD_length]; omega), List.getElem?_append_right (by rw [marksD_length]; omega), marksD_length]
      simp
    · rw [List.getElem?_append_left (by rw [marksD_length]; omega), List.getElem?_append_left (by rw [marksD_length]; omega)]
      exact ih (by omega)

set_option maxHeartbeats 2000000 in
theorem markDefS_any (k0 : Int) (base : Nat) (A : Option Addr) (c n : Nat) (xs : List Value) (w : World) (h : w.ownsRow base 67 2 (.slice A n c) n xs) (h0 : 0 < k0) (h1 : k0 + 2 * n ≤ 7000000) :
    Calls Try.prog 43 #[.slice A n c, .int .i64 k0] w (MarkP base 67 2 (.slice A n c) n (k0 + 2 * n) (marksD k0 n) w) := by
  have HO := Lib.hid h
  clear h
  go_enter Try.func43, Try.ntmps43
  go_wp2
  go_loopw [1, 5] (fun kk i wr => ∃ (k : Nat) (ys : List Value), k ≤ n ∧ i = .int .i64 k ∧ kk = .int .i64 (k0 + 2 * k) ∧ Hid (wr.ownsRow base 67 2 (.slice A n c) n ys) ∧ Hid (ys.take (k * 2) = marksD k0 k) ∧ Hid (w.grownBy wr (Value.slice A n c).ownBlock)) (fun _ i _ => n - (intOf i).toNat)
  case atStart => exact ⟨0, xs, Nat.zero_le _, rfl, by simp, HO, Lib.hid rfl, Lib.hid (World.grownBy.refl _ _)⟩
  case round =>
    obtain ⟨k, ys, hk, rfl, rfl, hown, htake, hgr⟩ := hrel
    by_cases hlt : k < n
    · obtain ⟨g, rfl, hbg, hgl⟩ := own_addr hown.out (by omega)
      have HM := Lib.hid (marksD_succ k0 k)
      have HL := Lib.hid hown.out.1
      go_wp2_with (go_at_call 44; refine (markText_any (k0 + 2 * k) _ (by omega) (by omega)).mono ?_; rintro e w1 ⟨rfl, hb1⟩; have HB1 := Lib.hid hb1; have HO1 := Lib.hid (own_below hown.out hb1); have hf1 := HO1.out.frozenAt (k * 2); obtain ⟨y1, hx1⟩ := own_cell HO1.out (k * 2) (by omega); have hf2 := HO1.out.frozenAt (k * 2 + 1); obtain ⟨y2, hx2⟩ := own_cell HO1.out (k * 2 + 1) (by omega); clear hb1)
      have hs1 := HO1.out.stored (k * 2) (.string (mk (k0 + 2 * k)))
      have hs2 := hs1.1.stored (k * 2 + 1) (.int .i64 (k0 + 2 * k + 1))
      go_roundw
      case rel => exact ⟨k + 1, _, by omega, by go_num, by first | go_num | (congr 1; push_cast; omega), Lib.hid hs2.1, Lib.hid (by rw [HM.out]; exact take_two htake.out (by rw [HL.out]; omega)), Lib.hid (((hgr.out.trans (grown_of_below HB1.out _)).trans hs1.2).trans hs2.2)⟩
      case measure => simp [intOf]; omega
    · obtain rfl : k = n := by omega
      go_wp2
      go_ret
      refine ⟨rfl, ?_, hgr.out⟩
      have e1 := htake.out
      rw [List.take_of_length_le (by rw [hown.out.1]; omega)] at e1
      rw [← e1]
      exact hown.out

set_option maxHeartbeats 2000000 in
theorem heldDefS_any (k0 : Int) (base : Nat) (A : Option Addr) (c n : Nat) (w : World) (h : w.ownsRow base 67 2 (.slice A n c) n (marksD k0 n)) (h0 : 0 < k0) (h1 : k0 + 2 * n ≤ 7000000) :
    Calls Try.prog 60 #[.slice A n c, .int .i64 k0] w (HeldP (k0 + 2 * n) w) := by
  have HO := Lib.hid h
  clear h
  go_enter Try.func60, Try.ntmps60
  go_wp2
  go_loopw [1, 5] (fun kk i wr => ∃ (k : Nat), k ≤ n ∧ i = .int .i64 k ∧ kk = .int .i64 (k0 + 2 * k) ∧ Hid (Below w.heap.size w wr)) (fun _ i _ => n - (intOf i).toNat)
  case atStart => exact ⟨0, Nat.zero_le _, rfl, by simp, Lib.hid (Below.refl _ _)⟩
  case round =>
    obtain ⟨k, hk, rfl, rfl, hbel⟩ := hrel
    by_cases hlt : k < n
    · have HOr := Lib.hid (own_below HO.out hbel.out)
      obtain ⟨g, rfl, hbg, hgl⟩ := own_addr HOr.out (by omega)
      have hx1 : wr.cell? ⟨g, k * 2, none⟩ = some (.string (mk (k0 + 2 * k))) := by rw [HOr.out.cellAt (k * 2) (by omega)]; exact (marksD_get k0 n k hlt).1
      have hy1 : wr.cell? ⟨g, k * 2 + 1, none⟩ = some (.int .i64 (k0 + 2 * k + 1)) := by rw [HOr.out.cellAt (k * 2 + 1) (by omega)]; exact (marksD_get k0 n k hlt).2
      have hi1 : (k : Int) < (n : Int) := by omega
      have hi0 : (0 : Int) ≤ (k : Int) := by omega
      go_wp2_with fail
      go_region_held3 (fun w' => w'.cell? ⟨g, k * 2, none⟩ = some (.string (mk (k0 + 2 * k)))) (first | go_keep | exact x2 | exact hx1)
        (first | (go_at_call 44; refine (markText_any (k0 + 2 * k) _ (by omega) (by omega)).mono ?_; rintro e w1 ⟨rfl, hb1⟩; replace hb1 : Below wr.heap.size wr w1 := (by first | exact hb1 | exact undrew hb1); have x2 := keep1 hb1 hx1; have y2 := keep1 hb1 hy1))
      have HB1 := Lib.hid hb1
      clear hb1 x2 hx1 hy1
      go_wp2
      go_roundw
      case rel => exact ⟨k + 1, by omega, by go_num, by first | go_num | (congr 1; push_cast; omega), Lib.hid (hbel.out.trans (HB1.out.mono hbel.out.size))⟩
      case measure => simp [intOf]; omega
    · obtain rfl : k = n := by omega
      go_wp2
      go_ret
      exact ⟨rfl, hbel.out⟩

/-! ### eqStringS -/
set_option maxHeartbeats 1000000 in
theorem eqStringS_any (ss : List ByteArray) (A A2 : Option Addr) (c c2 n n2 : Nat) (w : World) (hr : SS w w.heap.size A n c ss) (hr2 : SS w w.heap.size A2 n2 c2 ss) :
    Calls Try.prog 12 #[.slice A n c, .slice A2 n2 c2] w fun e w' => e = .returned (.bool true) ∧ Below w.heap.size w w' := by
  obtain rfl := hr.len
  obtain rfl := hr2.len
  have hl := hr.max
  have hl2 := hr.cap
  unfold maxLen at hl
  have HR := Lib.hid hr
  have HR2 := Lib.hid hr2
  clear hr hr2
  go_enter Try.func12, Try.ntmps12
  go_wp2
  go_loopw [5] (fun i wr => ∃ (k : Nat), k ≤ ss.length ∧ i = .int .i64 k ∧ Hid (Below w.heap.size w wr)) (fun i _ => ss.length - (intOf i).toNat)
  case atStart => exact ⟨0, Nat.zero_le _, rfl, Lib.hid (Below.refl _ _)⟩
  case round =>
    obtain ⟨k, hk, rfl, hbel⟩ := hrel
    by_cases hlt : k < ss.length
    · obtain ⟨b, o, rfl, hb, c1⟩ := (HR.out.below hbel.out).at_ hlt
      obtain ⟨b', o', rfl, hb', c1'⟩ := (HR2.out.below hbel.out).at_ hlt
      have hi1 : (k : Int) < (ss.length : Int) := by omega
      have hi0 : (0 : Int) ≤ (k : Int) := by omega
      go_wp2
      go_quiet (fail)
      go_wp2
      go_roundw
      case rel => exact ⟨k + 1, by omega, by go_num, Lib.hid (below_drewN hbel.out _)⟩
      case measure => simp [intOf]; omega
    · obtain rfl : k = ss.length := by omega
      go_wp2
      go_ret
      exact ⟨rfl, hbel.out⟩

/-! ### numbers -/
def marksI (k0 : Int) (k : Nat) : List Value := (List.range k).map fun i => .int .i64 (k0 + (i : Nat))
theorem marksI_succ (k0 : Int) (k : Nat) : marksI k0 (k + 1) = marksI k0 k ++ [.int .i64 (k0 + k)] := by
  unfold marksI; rw [List.range_succ, List.map_append]; rfl
theorem marksI_get (k0 : Int) (n k : Nat) (h : k < n) : (marksI k0 n)[k]? = some (.int .i64 (k0 + k)) := by
  unfold marksI; rw [List.getElem?_map, List.getElem?_range h]; rfl




theorem own_ne {W W' : World} {b1 b2 s1 s2 n1 n2 : Nat} {e1 e2 : TypeId} {v1 v2 : Value} {x1 x2 : List Value} (h1 : W.ownsRow b1 e1 s1 v1 n1 x1) (h2 : W'.ownsRow b2 e2 s2 v2 n2 x2) (hle : W.heap.size ≤ b2) : v1.ownBlock = none ∨ v1.ownBlock ≠ v2.ownBlock := by
  cases hk : v1.ownBlock with
  | none => exact .inl rfl
  | some k =>
    refine .inr fun e => ?_
    have q1 := h1.lt k hk
    have q2 := h2.lt k e.symm
    omega
theorem own_sym {v1 v2 : Value} (h : v1.ownBlock = none ∨ v1.ownBlock ≠ v2.ownBlock) : v2.ownBlock = none ∨ v2.ownBlock ≠ v1.ownBlock := by
  rcases h with h | h
  · cases e : v2.ownBlock with
    | none => exact .inl rfl
    | some k => exact .inr (by rw [h]; exact fun h => by cases h)
  · exact .inr (Ne.symm h)

/-- A fresh slice of numbers. -/
def flatI (ss : List Int) : List Value := ss.map (Value.int .i64)
theorem flatI_length (ss : List Int) : (flatI ss).length = ss.length := by simp [flatI]
def IntsP (ss : List Int) (w : World) (e : Ending) (w' : World) : Prop :=
  ∃ A c, e = .returned (.slice A ss.length c) ∧ w'.ownsRow w.heap.size 3 1 (.slice A ss.length c) ss.length (flatI ss) ∧ Below w.heap.size w w'
theorem si_of_own {w : World} {base n c : Nat} {A : Option Addr} {e : TypeId} {ss : List Int} (h : w.ownsRow base e 1 (.slice A n c) n (flatI ss)) (hok : ∀ s ∈ ss, -9223372036854775808 ≤ s ∧ s ≤ 9223372036854775807) : SI w w.heap.size A n c ss := by
  have hl : ss.length = n := by have := h.1; rw [flatI_length] at this; omega
  rcases h.2 with ⟨h1, h2⟩ | ⟨g, cap, cur, h1, hb, hg, hc, hm, hs, ht⟩
  · injection h1 with e1 e2 e3
    exact ⟨.inl (List.eq_nil_of_length_eq_zero (by omega)), hl, by omega, by subst e3; unfold maxLen; omega, hok⟩
  · injection h1 with e1 e2 e3
    subst e1 e3
    refine ⟨.inr ⟨g, 0, rfl, (Array.getElem?_eq_some_iff.1 hg).1, fun i x hi j v hj => ?_⟩, hl, hc, hm, hok⟩
    obtain ⟨hil, rfl⟩ := List.getElem?_eq_some_iff.1 hi
    match j, hj with
    | 0, hj =>
      simp [encI] at hj
      subst hj
      rw [show 0 + i * 1 + 0 = i from by omega, h.cellAt i (by omega)]
      unfold flatI
      rw [List.getElem?_map, List.getElem?_eq_getElem hil]
      rfl
    | j + 1, hj => simp [encI] at hj
end Go.Proofs.Ytlabdkmjdejgcaa
