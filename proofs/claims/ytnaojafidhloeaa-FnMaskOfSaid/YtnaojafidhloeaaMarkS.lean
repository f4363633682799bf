import Derived.Test.YtnaojafidhloeaaMark
namespace Go.Proofs.Ytnaojafidhloeaa
open Go.RowKit
set_option linter.unusedVariables false
set_option maxRecDepth 100000

theorem own_addr {w : World} {base n c sz : Nat} {A : Option Addr} {e : TypeId} {xs : List Value} (h : w.ownsRow base e sz (.slice A n c) n xs) (hn : 0 < n) : ∃ g, A = some ⟨g, 0, none⟩ ∧ base ≤ g ∧ g < w.heap.size := by
  rcases h.2 with ⟨h1, rfl⟩ | ⟨g, cap, cur, h1, hb, hg, _⟩
  · omega
  · injection h1 with e1
    exact ⟨g, e1, hb, (Array.getElem?_eq_some_iff.1 hg).1⟩
theorem grown_of_below {w w' : World} (h : Below w.heap.size w w') (row : Option Nat) : w.grownBy w' row := ⟨h.os, h.tape, h.output, h.size, fun k hk _ => h.block k hk⟩
theorem own_len {w : World} {base n sz : Nat} {e : TypeId} {v : Value} {xs : List Value} (h : w.ownsRow base e sz v n xs) : n ≤ maxLen := by
  rcases h.2 with ⟨_, rfl⟩ | ⟨g, cap, cur, h1, hb, hg, hc, hm, _⟩
  · exact Nat.zero_le _
  · omega

/-- The marks that begin at k0. -/
def marksS (k0 : Int) (k : Nat) : List Value := (List.range k).map fun i => .string (mk (k0 + (i : Nat)))
theorem marksS_succ (k0 : Int) (k : Nat) : marksS k0 (k + 1) = marksS k0 k ++ [.string (mk (k0 + k))] := by
  unfold marksS; rw [List.range_succ, List.map_append]; rfl
theorem marksS_get (k0 : Int) (n k : Nat) (h : k < n) : (marksS k0 n)[k]? = some (.string (mk (k0 + k))) := by
  unfold marksS; rw [List.getElem?_map, List.getElem?_range h]; rfl
theorem take_one {xs : List Value} {k : Nat} {a : Value} {ys : List Value} (h : xs.take k = ys) (hk : k < xs.length) : (xs.set k a).take (k + 1) = ys ++ [a] := by
  rw [List.take_succ_eq_append_getElem (by simp; omega), List.take_set_of_le (by omega), h]
  simp

/-- The row of v has been marked; nothing else that was there has changed. -/
def MarkP (base : Nat) (e : TypeId) (sz : Nat) (v : Value) (n : Nat) (r : Int) (ys : List Value) (w : World) (en : Ending) (w' : World) : Prop :=
  en = .returned (.int .i64 r) ∧ w'.ownsRow base e sz v n ys ∧ w.grownBy w' v.ownBlock


def HeldP (r : Int) (w : World) (e : Ending) (w' : World) : Prop := e = .returned (.int .i64 r) ∧ Below w.heap.size w w'

end Go.Proofs.Ytnaojafidhloeaa
