import Derived.Test.YtnaojafidhloeaaSub
namespace Go.Proofs.Ytnaojafidhloeaa
open Go.RowKit
set_option linter.unusedVariables false
set_option maxRecDepth 100000

/-! ### changes -/
structure Ch where
  kind : Int
  name : ByteArray
  old : Int
  new : Int
def encK (k : Ch) : List Value := [.int .i64 k.kind, .string k.name, .int .i64 k.old, .int .i64 k.new]
def I64 (n : Int) : Prop := -9223372036854775808 ≤ n ∧ n ≤ 9223372036854775807
def Ch.ok (d : Ch) : Prop := d.name.size ≤ maxLen ∧ I64 d.kind ∧ I64 d.old ∧ I64 d.new
/-- The slice A, n, c holds the changes ks, below block B. -/
structure SK (w : World) (B : Nat) (A : Option Addr) (n c : Nat) (ks : List Ch) : Prop where
  rd : Rd w B 4 encK A ks
  len : ks.length = n
  cap : n ≤ c
  max : c ≤ maxLen
  ok : ∀ t ∈ ks, t.ok
section
variable {w w' : World} {B B' : Nat} {A : Option Addr} {n c : Nat} {ks : List Ch}
theorem SK.keep (h : SK w B A n c ks) (hk : Rd w B 4 encK A ks → Rd w' B' 4 encK A ks) : SK w' B' A n c ks := ⟨hk h.rd, h.len, h.cap, h.max, h.ok⟩
theorem SK.below (h : SK w B A n c ks) (hb : Below B w w') : SK w' B A n c ks := h.keep fun r => Rd.below r hb
theorem SK.below' {B0 : Nat} (h : SK w B A n c ks) (hb : Below B0 w w') (hB : B ≤ B0) : SK w' B A n c ks := h.keep fun r => Rd.below' r hb hB
theorem SK.more (h : SK w B A n c ks) (hB : B ≤ B') : SK w B' A n c ks := h.keep fun r => Rd.more r hB
theorem SK.drew (h : SK w B A n c ks) : SK w.drew B A n c ks := h.keep fun r => Rd.drew r
theorem SK.drewN (h : SK w B A n c ks) (k : Nat) : SK (w.drewN k) B A n c ks := h.keep fun r => Rd.drewN r k
theorem SK.alloc (h : SK w B A n c ks) (hB : B ≤ w.heap.size) (o : Obj) : SK (w.alloc o) B A n c ks := h.keep fun r => Rd.alloc r hB o
theorem SK.call (h : SK w B A n c ks) (hB : B ≤ w.heap.size) : SK w w.heap.size A n c ks := h.more hB
theorem SK.take_ (h : SK w B A n c ks) (k : Nat) (hk : k ≤ n) : SK w B A k c (ks.take k) :=
  ⟨Rd.take_ h.rd k, by have := h.len; simp; omega, by have := h.cap; omega, h.max, fun d hd => h.ok d (List.mem_of_mem_take hd)⟩
theorem SK.sl (h : SK w B A n c ks) : SL encK 4 w B A n c ks := ⟨h.rd, h.len, h.cap, h.max⟩
theorem SK.none_ (w : World) (B : Nat) : SK w B none 0 0 [] := ⟨Rd.nil_, rfl, Nat.le_refl _, by unfold maxLen; omega, by simp⟩
theorem SK.at_ (h : SK w B A n c ks) {k : Nat} (hk : k < ks.length) :
    ∃ b o, A = some ⟨b, o, none⟩ ∧ b < B ∧ w.cell? ⟨b, o + k * 4, none⟩ = some (.int .i64 ks[k].kind) ∧ w.cell? ⟨b, o + k * 4 + 1, none⟩ = some (.string ks[k].name) ∧ w.cell? ⟨b, o + k * 4 + 2, none⟩ = some (.int .i64 ks[k].old) ∧ w.cell? ⟨b, o + k * 4 + 3, none⟩ = some (.int .i64 ks[k].new) := by
  obtain ⟨b, o, hA, hb, hc⟩ := Rd.at_ h.rd hk
  exact ⟨b, o, hA, hb, hc 0 _ rfl, hc 1 _ rfl, hc 2 _ rfl, hc 3 _ rfl⟩
end
def flatK (ks : List Ch) : List Value := ks.flatMap encK
theorem flatK_cons (d : Ch) (r : List Ch) : flatK (d :: r) = .int .i64 d.kind :: .string d.name :: .int .i64 d.old :: .int .i64 d.new :: flatK r := by simp [flatK, encK]
theorem flatK_length (ks : List Ch) : (flatK ks).length = ks.length * 4 := by
  induction ks with
  | nil => rfl
  | cons d r ih => rw [flatK_cons]; simp [ih]; omega
theorem flatK_get (ks : List Ch) (i : Nat) (h : i < ks.length) : (flatK ks)[i * 4]? = some (.int .i64 ks[i].kind) ∧ (flatK ks)[i * 4 + 1]? = some (.string ks[i].name) ∧ (flatK ks)[i * 4 + 2]? = some (.int .i64 ks[i].old) ∧ (flatK ks)[i * 4 + 3]? = some (.int .i64 ks[i].new) := by
  induction ks generalizing i with
  | nil => simp at h
  | cons d r ih =>
    rw [flatK_cons]
    cases i with
    | zero => simp
    | succ i =>
      have := ih i (by simpa using h)
      rw [show (i + 1) * 4 = i * 4 + 1 + 1 + 1 + 1 from by omega, show i * 4 + 1 + 1 + 1 + 1 + 1 = (i * 4 + 1) + 1 + 1 + 1 + 1 from rfl, show i * 4 + 1 + 1 + 1 + 1 + 2 = (i * 4 + 2) + 1 + 1 + 1 + 1 from rfl, show i * 4 + 1 + 1 + 1 + 1 + 3 = (i * 4 + 3) + 1 + 1 + 1 + 1 from rfl]
      simpa using this
theorem flatK_snoc (ks : List Ch) (k : Nat) (h : k < ks.length) : flatK (ks.take (k + 1)) = flatK (ks.take k) ++ [.int .i64 ks[k].kind, .string ks[k].name, .int .i64 ks[k].old, .int .i64 ks[k].new] := by
  unfold flatK
  rw [List.take_succ_eq_append_getElem h, List.flatMap_append]
  simp only [List.flatMap_cons, List.flatMap_nil, List.append_nil]
  rfl
theorem flatK_app (xs ys : List Ch) : flatK (xs ++ ys) = flatK xs ++ flatK ys := by unfold flatK; rw [List.flatMap_append]
theorem own_drewN {w : World} {base : Nat} {e : TypeId} {sz : Nat} {v : Value} {n : Nat} {xs : List Value} (h : w.ownsRow base e sz v n xs) (m : Nat) : (w.drewN m).ownsRow base e sz v n xs := h
theorem own_some {w : World} {base : Nat} {e : TypeId} {sz : Nat} {v : Value} {n : Nat} {xs : List Value} (h : w.ownsRow base e sz v n xs) (hn : 0 < n) : v.ownBlock ≠ none := by
  rcases h.2 with ⟨_, h0⟩ | ⟨g, cap, cur, rfl, _⟩
  · omega
  · simp [Value.ownBlock]
/-- An owned row of changes reads as a slice of them. -/
theorem sk_of_own {w : World} {base n c : Nat} {A : Option Addr} {e : TypeId} {ks : List Ch} (h : w.ownsRow base e 4 (.slice A n c) n (flatK ks)) (hok : ∀ d ∈ ks, d.ok) : SK w w.heap.size A n c ks := by
  have hl : ks.length = n := by have := h.1; rw [flatK_length] at this; omega
  rcases h.2 with ⟨h1, h2⟩ | ⟨g, cap, cur, h1, hb, hg, hc, hm, hs, ht⟩
  · injection h1 with e1 e2 e3
    exact ⟨.inl (List.eq_nil_of_length_eq_zero (by omega)), hl, by omega, by subst e3; unfold maxLen; omega, hok⟩
  · injection h1 with e1 e2 e3
    subst e1 e3
    refine ⟨.inr ⟨g, 0, rfl, (Array.getElem?_eq_some_iff.1 hg).1, fun i x hi j v hj => ?_⟩, hl, hc, hm, hok⟩
    obtain ⟨hil, rfl⟩ := List.getElem?_eq_some_iff.1 hi
    obtain ⟨q1, q2, q3, q4⟩ := flatK_get ks i hil
    have hc : ∀ j, j < n * 4 → w.cell? ⟨g, j, none⟩ = (flatK ks)[j]? := fun j hj => h.cellAt j hj
    match j, hj with
    | 0, hj =>
      simp [encK] at hj
      subst hj
      rw [show 0 + i * 4 + 0 = i * 4 from by omega, hc _ (by omega)]
      exact q1
    | 1, hj =>
      simp [encK] at hj
      subst hj
      rw [show 0 + i * 4 + 1 = i * 4 + 1 from by omega, hc _ (by omega)]
      exact q2
    | 2, hj =>
      simp [encK] at hj
      subst hj
      rw [show 0 + i * 4 + 2 = i * 4 + 2 from by omega, hc _ (by omega)]
      exact q3
    | 3, hj =>
      simp [encK] at hj
      subst hj
      rw [show 0 + i * 4 + 3 = i * 4 + 3 from by omega, hc _ (by omega)]
      exact q4
    | j + 4, hj => simp [encK] at hj
section
variable {W : World} {ops : Array Oper} {rest : List Oper} {o : Oper} {a : Act} {Q : Exit → Act → World → Prop}
end
end Go.Proofs.Ytnaojafidhloeaa
