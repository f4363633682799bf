import Derived.Test.YtnaojafidhloeaaHelp
namespace Go.Proofs.Ytnaojafidhloeaa
open Go.RowKit
set_option linter.unusedVariables false
set_option maxRecDepth 100000

def flat (ds : List D) : List Value := ds.flatMap encD
theorem flat_length (ds : List D) : (flat ds).length = ds.length * 2 := by
  induction ds with
  | nil => rfl
  | cons d r ih => unfold flat at *; simp [encD, ih]; omega
theorem flat_get (ds : List D) (i : Nat) (h : i < ds.length) : (flat ds)[i * 2]? = some (.string ds[i].name) ∧ (flat ds)[i * 2 + 1]? = some (.int .i64 ds[i].val) := by
  induction ds generalizing i with
  | nil => simp at h
  | cons d r ih =>
    have e : flat (d :: r) = .string d.name :: .int .i64 d.val :: flat r := by simp [flat, encD]
    rw [e]
    cases i with
    | zero => simp
    | succ i =>
      have := ih i (by simpa using h)
      rw [show (i + 1) * 2 = i * 2 + 1 + 1 from by omega, show i * 2 + 1 + 1 + 1 = (i * 2 + 1) + 1 + 1 from rfl]
      simpa using this
theorem flat_snoc (ds : List D) (k : Nat) (h : k < ds.length) : flat (ds.take (k + 1)) = flat (ds.take k) ++ [.string ds[k].name, .int .i64 ds[k].val] := by
  unfold flat
  rw [List.take_succ_eq_append_getElem h, List.flatMap_append]
  simp only [List.flatMap_cons, List.flatMap_nil, List.append_nil]
  rfl

theorem flat_set_name (ds : List D) (k : Nat) (hk : k < ds.length) (s : ByteArray) : (flat ds).set (k * 2) (.string s) = flat (ds.set k ⟨s, ds[k].val⟩) := by
  induction ds generalizing k with
  | nil => simp at hk
  | cons d r ih =>
    have e : ∀ d r, flat (d :: r) = .string d.name :: .int .i64 d.val :: flat r := fun d r => by simp [flat, encD]
    cases k with
    | zero => simp [e]
    | succ k =>
      have := ih k (by simpa using hk)
      rw [show (k + 1) * 2 = k * 2 + 1 + 1 from by omega]
      simp [e, this]
theorem flat_set_val (ds : List D) (k : Nat) (hk : k < ds.length) (v : Int) : (flat ds).set (k * 2 + 1) (.int .i64 v) = flat (ds.set k ⟨ds[k].name, v⟩) := by
  induction ds generalizing k with
  | nil => simp at hk
  | cons d r ih =>
    have e : ∀ d r, flat (d :: r) = .string d.name :: .int .i64 d.val :: flat r := fun d r => by simp [flat, encD]
    cases k with
    | zero => simp [e]
    | succ k =>
      have := ih k (by simpa using hk)
      rw [show (k + 1) * 2 + 1 = k * 2 + 1 + 1 + 1 from by omega]
      simp [e, this]

theorem info_D : (Try.prog.info? 30).map (fun i => (i.zero, i.size, i.bytes)) = some (some (.agg #[.string ByteArray.empty, .int .i64 0]), 2, 24) := by kernel_rfl

theorem own_below {w w' : World} {base : Nat} {e : TypeId} {sz : Nat} {v : Value} {n : Nat} {xs : List Value} (h : w.ownsRow base e sz v n xs) (hb : Below w.heap.size w w') : w'.ownsRow base e sz v n xs := by
  refine ⟨h.1, ?_⟩
  rcases h.2 with hn | ⟨g, cap, cur, rfl, h1, hg, rest⟩
  · exact .inl hn
  · exact .inr ⟨g, cap, cur, rfl, h1, (hb.block g (Array.getElem?_eq_some_iff.1 hg).1).trans hg, rest⟩

/-- An owned row of definitions reads as a slice of them. -/
theorem sd_of_own {w : World} {base n c : Nat} {A : Option Addr} {e : TypeId} {ds : List D} (h : w.ownsRow base e 2 (.slice A n c) n (flat ds)) (hok : ∀ d ∈ ds, d.ok) : SD w w.heap.size A n c ds := by
  have hl : ds.length = n := by have := h.1; rw [flat_length] at this; omega
  rcases h.2 with ⟨h1, h2⟩ | ⟨g, cap, cur, h1, hb, hg, hc, hm, hs, ht⟩
  · injection h1 with e1 e2 e3
    exact ⟨.inl (List.eq_nil_of_length_eq_zero (by omega)), hl, by omega, by subst e3; unfold maxLen; omega, hok⟩
  · injection h1 with e1 e2 e3
    subst e1 e3
    refine ⟨.inr ⟨g, 0, rfl, (Array.getElem?_eq_some_iff.1 hg).1, fun i x hi j v hj => ?_⟩, hl, hc, hm, hok⟩
    obtain ⟨hil, rfl⟩ := List.getElem?_eq_some_iff.1 hi
    obtain ⟨q1, q2⟩ := flat_get ds i hil
    have hc : ∀ j, j < n * 2 → w.cell? ⟨g, j, none⟩ = (flat ds)[j]? := fun j hj => h.cellAt j hj
    match j, hj with
    | 0, hj =>
      simp [encD] at hj
      subst hj
      rw [show 0 + i * 2 + 0 = i * 2 from by omega, hc _ (by omega)]
      exact q1
    | 1, hj =>
      simp [encD] at hj
      subst hj
      rw [show 0 + i * 2 + 1 = i * 2 + 1 from by omega, hc _ (by omega)]
      exact q2
    | j + 2, hj => simp [encD] at hj

theorem own_cell {w : World} {base g n cap sz : Nat} {e : TypeId} {xs : List Value} (h : w.ownsRow base e sz (.slice (some ⟨g, 0, none⟩) n cap) n xs) (j : Nat) (hj : j < n * sz) : ∃ y, w.cell? ⟨g, j, none⟩ = some y :=
  ⟨xs[j]'(by rw [h.1]; exact hj), by rw [h.cellAt j hj]; exact List.getElem?_eq_getElem _⟩

theorem take_two {xs : List Value} {k : Nat} {a b : Value} {ys : List Value} (h : xs.take (k * 2) = ys) (hk : k * 2 + 1 < xs.length) : ((xs.set (k * 2) a).set (k * 2 + 1) b).take ((k + 1) * 2) = ys ++ [a, b] := by
  have e : (k + 1) * 2 = k * 2 + 1 + 1 := by omega
  have h1 : k * 2 < xs.length := by omega
  rw [e, List.take_succ_eq_append_getElem (by simp; omega), List.take_succ_eq_append_getElem (by simp; omega)]
  rw [List.take_set_of_le (by omega), List.take_set_of_le (by omega), h]
  simp


theorem own_base {w : World} {base base' : Nat} {e : TypeId} {sz : Nat} {v : Value} {n : Nat} {xs : List Value} (h : w.ownsRow base e sz v n xs) (hb : base' ≤ base) : w.ownsRow base' e sz v n xs := by
  refine ⟨h.1, ?_⟩
  rcases h.2 with hn | ⟨g, cap, cur, rfl, h1, rest⟩
  · exact .inl hn
  · exact .inr ⟨g, cap, cur, rfl, by omega, rest⟩

theorem bcell {W w1 : World} (hb : Below W.heap.size W w1) : (∀ b o, b < W.heap.size → w1.cell? ⟨b, o, none⟩ = W.cell? ⟨b, o, none⟩) ∧ (∀ b o, b < W.heap.size → w1.frozen? ⟨b, o, none⟩ = W.frozen? ⟨b, o, none⟩) :=
  ⟨fun b o h => hb.cell (p := ⟨b, o, none⟩) h, fun b o h => hb.frozen (p := ⟨b, o, none⟩) h⟩

theorem own_setCell {w : World} {base : Nat} {e : TypeId} {sz : Nat} {v : Value} {n : Nat} {xs : List Value} (h : w.ownsRow base e sz v n xs) {p : Addr} (hp : v.ownBlock ≠ some p.block) (u : Value) : (w.setCell p u).ownsRow base e sz v n xs := by
  refine ⟨h.1, ?_⟩
  rcases h.2 with hn | ⟨g, cap, cur, rfl, h1, hg, rest⟩
  · exact .inl hn
  · exact .inr ⟨g, cap, cur, rfl, h1, (Below.heap_setCell w p u g (fun e => hp (by simp [Value.ownBlock, e]))).trans hg, rest⟩

theorem undrew {w w' : World} (h : Below w.drew.heap.size w.drew w') : Below w.heap.size w w' := ⟨h.os, h.tape, h.output, h.size, h.block⟩
theorem keep1 {W w1 : World} (hb : Below W.heap.size W w1) {b o : Nat} {v : Value} (h : W.cell? ⟨b, o, none⟩ = some v) : w1.cell? ⟨b, o, none⟩ = some v :=
  (hb.cell (p := ⟨b, o, none⟩) (World.block_lt_of_cell? _ _ h)).trans h
/-- A fresh copy of definitions: an owned row in new memory. -/
def CopyP (n : Nat) (ds : List D) (w : World) (e : Ending) (w' : World) : Prop :=
  ∃ g, e = .returned (.agg #[.slice (some ⟨g, 0, none⟩) n n]) ∧ w'.ownsRow w.heap.size 30 2 (.slice (some ⟨g, 0, none⟩) n n) n (flat ds) ∧ Below w.heap.size w w'

end Go.Proofs.Ytnaojafidhloeaa
