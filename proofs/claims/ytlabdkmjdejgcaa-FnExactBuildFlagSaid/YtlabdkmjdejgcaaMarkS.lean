import Derived.Test.YtlabdkmjdejgcaaMark
namespace Go.Proofs.Ytlabdkmjdejgcaa
open Go.RowKit
set_option linter.unusedVariables false
set_option maxRecDepth 100000

theorem own_addr {w : World} {base n c sz : Nat} {A : Option Addr} {e : TypeId} {xs : List Value} (h : w.ownsRow base e sz (.slice A n c) n xs) (hn : 0 < n) : ∃ g, A = some ⟨g, 0, none⟩ ∧ base ≤ g ∧ g < w.heap.size := by
  rcases h.2 with ⟨h1, rfl⟩ | ⟨g, cap, cur, h1, hb, hg, _⟩
  · omega
  · injection h1 with e1
    exact ⟨g, e1, hb, (Array.getElem?_eq_some_iff.1 hg).1⟩
theorem grown_of_below {w w' : World} (h : Below w.heap.size w w') (row : Option Nat) : w.grownBy w' row := ⟨h.os, h.tape, h.output, h.size, fun k hk _ => h.block k hk⟩
theorem own_len {w : World} {base n sz : Nat} {e : TypeId} {v : Value} {xs : List Value} (h : w.ownsRow base e sz v n xs) : n ≤ maxLen := by
  rcases h.2 with ⟨_, rfl⟩ | ⟨g, cap, cur, h1, hb, hg, hc, hm, _⟩
  · exact Nat.zero_le _
  · omega

/-- The marks that begin at k0. -/
def marksS (k0 : Int) (k : Nat) : List Value := (List.range k).map fun i => .string (mk (k0 + (i : Nat)))
theorem marksS_succ (k0 : Int) (k : Nat) : marksS k0 (k + 1) = marksS k0 k ++ [.string (mk (k0 + k))] := by
  unfold marksS; rw [List.range_succ, List.map_append]; rfl
theorem marksS_get (k0 : Int) (n k : Nat) (h : k < n) : (marksS k0 n)[k]? = some (.string (mk (k0 + k))) := by
  unfold marksS; rw [List.getElem?_map, List.getElem?_range h]; rfl
theorem take_one {xs : List Value} {k : Nat} {a : Value} {ys : List Value} (h : xs.take k = ys) (hk : k < xs.length) : (xs.set k a).take (k + 1) = ys ++ [a] := by
  rw [List.take_succ_eq_append_getElem (by simp; omega), List.take_set_of_le (by omega), h]
  simp

/-- The row of v has been marked; nothing else that was there has changed. -/
def MarkP (base : Nat) (e : TypeId) (sz : Nat) (v : Value) (n : Nat) (r : Int) (ys : List Value) (w : World) (en : Ending) (w' : World) : Prop :=
  en = .returned (.int .i64 r) ∧ w'.ownsRow base e sz v n ys ∧ w.grownBy w' v.ownBlock

set_option maxHeartbeats 1000000 in
theorem markStringS_any (k0 : Int) (base : Nat) (A : Option Addr) (c n : Nat) (xs : List Value) (w : World) (h : w.ownsRow base 9 1 (.slice A n c) n xs) (h0 : 0 < k0) (h1 : k0 + n ≤ 4000000) :
    Calls Try.prog 15 #[.slice A n c, .int .i64 k0] w (MarkP base 9 1 (.slice A n c) n (k0 + n) (marksS k0 n) w) := by
  have HO := Lib.hid h
  clear h
  go_enter Try.func15, Try.ntmps15
  go_wp2
  go_loopw [1, 5] (fun kk i wr => ∃ (k : Nat) (ys : List Value), k ≤ n ∧ i = .int .i64 k ∧ kk = .int .i64 (k0 + k) ∧ Hid (wr.ownsRow base 9 1 (.slice A n c) n ys) ∧ Hid (ys.take k = marksS k0 k) ∧ Hid (w.grownBy wr (Value.slice A n c).ownBlock)) (fun _ i _ => n - (intOf i).toNat)
  case atStart => exact ⟨0, xs, Nat.zero_le _, rfl, by simp, HO, Lib.hid rfl, Lib.hid (World.grownBy.refl _ _)⟩
  case round =>
    obtain ⟨k, ys, hk, rfl, rfl, hown, htake, hgr⟩ := hrel
    by_cases hlt : k < n
    · obtain ⟨g, rfl, hbg, hgl⟩ := own_addr hown.out (by omega)
      have HM := Lib.hid (marksS_succ k0 k)
      have HL := Lib.hid hown.out.1
      go_wp2_with (go_at_call 44; refine (markText_any (k0 + k) _ (by omega) (by omega)).mono ?_; rintro e w1 ⟨rfl, hb1⟩; have HB1 := Lib.hid hb1; have HO1 := Lib.hid (own_below hown.out hb1); have hf1 := HO1.out.frozenAt k; obtain ⟨y1, hx1⟩ := own_cell HO1.out k (by omega); clear hb1)
      have hs1 := HO1.out.stored k (.string (mk (k0 + k)))
      go_roundw
      case rel => exact ⟨k + 1, _, by omega, by go_num, by first | go_num | (congr 1; push_cast; omega), Lib.hid hs1.1, Lib.hid (by rw [HM.out]; exact take_one htake.out (by rw [HL.out]; omega)), Lib.hid ((hgr.out.trans (grown_of_below HB1.out _)).trans hs1.2)⟩
      case measure => simp [intOf]; omega
    · obtain rfl : k = n := by omega
      go_wp2
      go_ret
      refine ⟨rfl, ?_, hgr.out⟩
      have e1 := htake.out
      rw [List.take_of_length_le (by rw [hown.out.1]; omega)] at e1
      rw [← e1]
      exact hown.out

def HeldP (r : Int) (w : World) (e : Ending) (w' : World) : Prop := e = .returned (.int .i64 r) ∧ Below w.heap.size w w'

set_option maxHeartbeats 1000000 in
theorem heldStringS_any (k0 : Int) (base : Nat) (A : Option Addr) (c n : Nat) (w : World) (h : w.ownsRow base 9 1 (.slice A n c) n (marksS k0 n)) (h0 : 0 < k0) (h1 : k0 + n ≤ 4000000) :
    Calls Try.prog 16 #[.slice A n c, .int .i64 k0] w (HeldP (k0 + n) w) := by
  have HO := Lib.hid h
  clear h
  go_enter Try.func16, Try.ntmps16
  go_wp2
  go_loopw [1, 5] (fun kk i wr => ∃ (k : Nat), k ≤ n ∧ i = .int .i64 k ∧ kk = .int .i64 (k0 + k) ∧ Hid (Below w.heap.size w wr)) (fun _ i _ => n - (intOf i).toNat)
  case atStart => exact ⟨0, Nat.zero_le _, rfl, by simp, Lib.hid (Below.refl _ _)⟩
  case round =>
    obtain ⟨k, hk, rfl, rfl, hbel⟩ := hrel
    by_cases hlt : k < n
    · have HOr := Lib.hid (own_below HO.out hbel.out)
      obtain ⟨g, rfl, hbg, hgl⟩ := own_addr HOr.out (by omega)
      have hx1 : wr.cell? ⟨g, k, none⟩ = some (.string (mk (k0 + k))) := by rw [HOr.out.cellAt k (by omega)]; exact marksS_get k0 n k hlt
      have hi1 : (k : Int) < (n : Int) := by omega
      have hi0 : (0 : Int) ≤ (k : Int) := by omega
      go_wp2_with fail
      go_region_held3 (fun w' => w'.cell? ⟨g, k, none⟩ = some (.string (mk (k0 + k)))) (first | go_keep | exact x2 | exact hx1)
        (first | (go_at_call 44; refine (markText_any (k0 + k) _ (by omega) (by omega)).mono ?_; rintro e w1 ⟨rfl, hb1⟩; replace hb1 : Below wr.heap.size wr w1 := (by first | exact hb1 | exact undrew hb1); have x2 := keep1 hb1 hx1))
      have HB1 := Lib.hid hb1
      clear hb1 x2 hx1
      go_wp2
      go_roundw
      case rel => exact ⟨k + 1, by omega, by go_num, by first | go_num | (congr 1; push_cast; omega), Lib.hid (hbel.out.trans (HB1.out.mono hbel.out.size))⟩
      case measure => simp [intOf]; omega
    · obtain rfl : k = n := by omega
      go_wp2
      go_ret
      exact ⟨rfl, hbel.out⟩
end Go.Proofs.Ytlabdkmjdejgcaa
