import Derived.Test.YtiebdhbioccogaaGreatDoorBaseB
import Derived.Maps.AppendAt
import Derived.Laws.StructEq
namespace Go.Proofs.YtiebdhbioccogaaGreatDoor
open Go.RowKit
set_option linter.unusedVariables false
set_option maxRecDepth 100000

/-! ### slices of whatever flat elements; parts of slices; appending one to a row of one's own -/
/-- The slice A, n, c holds the elements xs, each of sz cells, below block B. -/
structure SL {α : Type} (enc : α → List Value) (sz : Nat) (w : World) (B : Nat) (A : Option Addr) (n c : Nat) (xs : List α) : Prop where
  rd : Rd w B sz enc A xs
  len : xs.length = n
  cap : n ≤ c
  max : c ≤ maxLen
section
variable {α : Type} {enc : α → List Value} {sz : Nat} {w w' : World} {B B' : Nat} {A : Option Addr} {n c : Nat} {xs : List α}
theorem SL.below (h : SL enc sz w B A n c xs) (hb : Below B w w') : SL enc sz w' B A n c xs := ⟨h.rd.below hb, h.len, h.cap, h.max⟩
theorem SL.below' {B0 : Nat} (h : SL enc sz w B A n c xs) (hb : Below B0 w w') (hB : B ≤ B0) : SL enc sz w' B A n c xs := ⟨h.rd.below' hb hB, h.len, h.cap, h.max⟩
theorem SL.more (h : SL enc sz w B A n c xs) (hB : B ≤ B') : SL enc sz w B' A n c xs := ⟨h.rd.more hB, h.len, h.cap, h.max⟩
theorem SL.none_ : SL enc sz w B none 0 0 [] := ⟨Rd.nil_, rfl, Nat.le_refl _, by unfold maxLen; omega⟩
theorem SL.alloc (h : SL enc sz w B A n c xs) (hB : B ≤ w.heap.size) (o : Obj) : SL enc sz (w.alloc o) B A n c xs := ⟨h.rd.alloc hB o, h.len, h.cap, h.max⟩
theorem SL.drew (h : SL enc sz w B A n c xs) : SL enc sz w.drew B A n c xs := ⟨h.rd.drew, h.len, h.cap, h.max⟩
theorem flat_at (henc : ∀ x, (enc x).length = sz) (xs : List α) (j : Nat) (u : Value) (h : (xs.flatMap enc)[j]? = some u) : ∃ i x r, xs[i]? = some x ∧ (enc x)[r]? = some u ∧ j = i * sz + r := by
  induction xs generalizing j with
  | nil => simp at h
  | cons x r ih =>
    rw [List.flatMap_cons] at h
    by_cases hj : j < sz
    · rw [List.getElem?_append_left (by rw [henc]; exact hj)] at h
      exact ⟨0, x, j, rfl, h, by simp⟩
    · rw [List.getElem?_append_right (by rw [henc]; omega), henc] at h
      obtain ⟨i, y, q, h1, h2, h3⟩ := ih _ h
      exact ⟨i + 1, y, q, by simpa using h1, h2, by rw [Nat.succ_mul]; omega⟩
theorem flat_len (henc : ∀ x, (enc x).length = sz) (xs : List α) : (xs.flatMap enc).length = xs.length * sz := by
  induction xs with
  | nil => simp
  | cons x r ih => rw [List.flatMap_cons, List.length_append, henc, ih, List.length_cons, Nat.succ_mul]; omega
/-- What an append asks of its source. -/
def Src (w : World) (size : Nat) (A : Option Addr) (m : Nat) (news : List Value) : Prop :=
  news.length = m * size ∧ ((A = none ∧ m = 0) ∨ ∃ ad, A = some ad ∧ ∀ j u, news[j]? = some u → w.cell? (ad.add j) = some u)
theorem SL.src (h : SL enc sz w B A n c xs) (henc : ∀ x, (enc x).length = sz) : Src w sz A n (xs.flatMap enc) := by
  refine ⟨by rw [flat_len henc, h.len], ?_⟩
  rcases h.rd with rfl | ⟨b, o, rfl, hb, hc⟩
  · cases A with
    | none => exact .inl ⟨rfl, by simpa using h.len.symm⟩
    | some ad => exact .inr ⟨ad, rfl, by simp⟩
  · refine .inr ⟨_, rfl, fun j u hj => ?_⟩
    obtain ⟨i, x, r, h1, h2, rfl⟩ := flat_at henc xs j u hj
    have := hc i x h1 r u h2
    have adds : ∀ k, (⟨b, o, none⟩ : Addr).add k = ⟨b, o + k, none⟩ := fun k => by unfold Addr.add; split <;> simp_all
    rw [adds, show o + (i * sz + r) = o + i * sz + r by omega]
    exact this
end
theorem SD.sl {w : World} {B n c : Nat} {A : Option Addr} {ds : List D} (h : SD w B A n c ds) : SL encD 2 w B A n c ds := ⟨h.rd, h.len, h.cap, h.max⟩
theorem SD.drop_ {w : World} {B n c : Nat} {A : Option Addr} {ds : List D} (h : SD w B A n c ds) (k : Nat) (hk : k ≤ n) :
    SD w B (if c = k then A else A.map (·.add (k * 2))) (n - k) (c - k) (ds.drop k) := by
  have hl := h.len
  have hcp := h.cap
  refine ⟨?_, by simp; omega, by omega, by have := h.max; omega, fun d hd => h.ok d (List.mem_of_mem_drop hd)⟩
  by_cases hc : c = k
  · have : ds.drop k = [] := List.drop_eq_nil_of_le (by omega)
    rw [this]; exact .inl rfl
  · rw [if_neg hc]
    rcases h.rd with rfl | ⟨b, o, rfl, hb, hcell⟩
    · exact .inl (by simp)
    · refine .inr ⟨b, o + k * 2, ?_, hb, fun i x hi j v hj => ?_⟩
      · show some ((⟨b, o, none⟩ : Addr).add (k * 2)) = _
        congr 1
        unfold Addr.add; split <;> simp_all
      · rw [List.getElem?_drop] at hi
        have := hcell (k + i) x hi j v hj
        rw [show o + (k + i) * 2 + j = o + k * 2 + i * 2 + j by omega] at this
        exact this

theorem run_app_src {P : Program} (w : World) (base : Nat) (t ty e : TypeId) (i : TypeInfo) (z : Value) (size bytes : Nat) (ht : P.underlying t = some (.slice e)) (hi : P.info? e = some i) (hz : i.zero = some z)
    (hsize : i.size = size) (hby : i.bytes = bytes) (hzs : z.cells.size = size) (hsz : 0 < size) (v : Value) (n : Nat) (xs : List Value) (hown : w.ownsRow base e size v n xs)
    (A : Option Addr) (m c : Nat) (news : List Value) (hs : Src w size A m news) (h1 : ∀ u ∈ news, u.oneCell' = true) (h63 : n + m ≤ maxLen) (hbytes : (n + m) * bytes ≤ 140737488355328) (hbase : base ≤ w.heap.size) :
    ∃ v' w', (Builtin.append_ #[t, t] ty #[v, .slice A m c]).run P w = .ok v' w' ∧ w'.ownsRow base e size v' (n + m) (xs ++ news) ∧ w.grownBy w' v.ownBlock := by
  rcases hs.2 with ⟨rfl, rfl⟩ | ⟨ad, rfl, hc⟩
  · have hn : news = [] := List.eq_nil_of_length_eq_zero (by simpa using hs.1)
    subst hn
    refine ⟨v, w, ?_, by simpa using hown, World.grownBy.refl _ _⟩
    rcases hown.2 with ⟨rfl, rfl⟩ | ⟨g, cap, cur, rfl, _, _, hcap, _⟩
    · simp [Builtin.append_, run_underlying ht, sizeOf, typeInfo, hi, Builtin.lenOf, Builtin.firstCells]
    · simp [Builtin.append_, run_underlying ht, sizeOf, typeInfo, hi, Builtin.lenOf, Builtin.firstCells, storeCells, hcap]
  · obtain ⟨v', w', hrun, h2, h3, _⟩ := run_append_own_at (P := P) w base t ty e i z size bytes ht hi hz hsize hby hzs hsz v n xs hown ad m c news hs.1 hc h1 h63 hbytes hbase
    exact ⟨v', w', hrun, h2, h3⟩

theorem wpList_app_src {P : Program} {W : World} {ops : Array Oper} {rest : List Oper} {o : Oper} {a : Act} {Q : Exit → Act → World → Prop} (hgd : o.guard = none) (s x : Operand) (t : TypeId)
    (ho : o.op = .call { callee := .builtin .append, args := #[s, x], argTypes := #[t, t] })
    (base : Nat) (e : TypeId) (i : TypeInfo) (z : Value) (size bytes : Nat) (ht : P.underlying t = some (.slice e)) (hi : P.info? e = some i ∧ i.zero = some z ∧ i.size = size ∧ i.bytes = bytes)
    (hzs : z.cells.size = size) (hsz : 0 < size) (hby : bytes ≤ 48)
    (v : Value) (n : Nat) (xs : List Value) (hs : a.eval s = v) (hown : W.ownsRow base e size v n xs)
    (A : Option Addr) (m c : Nat) (news : List Value) (hx : a.eval x = .slice A m c) (hsrc : Src W size A m news) (h1 : ∀ u ∈ news, u.oneCell' = true) (hn : n + m ≤ 2000000) (hbase : base ≤ W.heap.size)
    (h : ∀ v' w', w'.ownsRow base e size v' (n + m) (xs ++ news) → W.grownBy w' v.ownBlock → wpList P ops Q rest (a.put o.dst v') w') :
    wpList P ops Q (o :: rest) a W := by
  obtain ⟨v', w', hr, h2, h3⟩ := run_app_src (P := P) W base t o.type e i z size bytes ht hi.1 hi.2.1 hi.2.2.1 hi.2.2.2 hzs hsz v n xs hown A m c news hsrc h1 (by unfold maxLen; omega) (by have : (n + m) * bytes ≤ 2000000 * 48 := Nat.mul_le_mul hn hby; omega) hbase
  exact Lib.wpList_append_run W hgd s x t t ho v _ hs hx v' w' hr (h v' w' h2 h3)

/-- An owned row of which nothing counts any more. -/
theorem own_cut0 {w : World} {base m c sz : Nat} {e : TypeId} {A : Option Addr} {xs : List Value} (h : w.ownsRow base e sz (.slice A m c) m xs) (hm : 0 < m) : w.ownsRow base e sz (.slice A 0 c) 0 [] := by
  refine ⟨by simp, .inr ?_⟩
  rcases h.2 with ⟨_, h0⟩ | ⟨g, cap, cur, h1, hb, hg, hc, hcm, hcs, ht⟩
  · omega
  · injection h1 with e1 e2 e3
    subst e1 e3
    exact ⟨g, c, cur, rfl, hb, hg, Nat.zero_le _, hcm, hcs, by simp⟩

/-- A part: a slice and what it holds. -/
structure Part (α : Type) where
  A : Option Addr
  n : Nat
  c : Nat
  xs : List α
def encP {α : Type} (p : Part α) : List Value := [.slice p.A p.n p.c]
def cat {α : Type} (ps : List (Part α)) : List α := ps.flatMap Part.xs
theorem cat_snoc {α : Type} (ps : List (Part α)) (k : Nat) (h : k < ps.length) : cat (ps.take (k + 1)) = cat (ps.take k) ++ ps[k].xs := by
  unfold cat
  rw [List.take_succ_eq_append_getElem h, List.flatMap_append]; simp
theorem cat_le {α : Type} (ps : List (Part α)) (k : Nat) : (cat (ps.take k)).length ≤ (cat ps).length := by
  have : cat ps = cat (ps.take k) ++ cat (ps.drop k) := by unfold cat; rw [← List.flatMap_append, List.take_append_drop]
  rw [this, List.length_append]; omega
theorem part1 {α : Type} {w : World} {B g : Nat} {p0 : Part α} (h0 : w.cell? ⟨g, 0, none⟩ = some (.slice p0.A p0.n p0.c)) (hg : g < B) : Rd w B 1 encP (some ⟨g, 0, none⟩) [p0] := by
  refine .inr ⟨g, 0, rfl, hg, fun i x hi j v hj => ?_⟩
  match i, hi with
  | 0, hi => simp at hi; subst hi; match j, hj with | 0, hj => simp [encP] at hj; subst hj; exact h0
  | i + 1, hi => simp at hi
theorem part2 {α : Type} {w : World} {B g : Nat} {p0 p1 : Part α} (h0 : w.cell? ⟨g, 0, none⟩ = some (.slice p0.A p0.n p0.c)) (h1 : w.cell? ⟨g, 1, none⟩ = some (.slice p1.A p1.n p1.c)) (hg : g < B) : Rd w B 1 encP (some ⟨g, 0, none⟩) [p0, p1] := by
  refine .inr ⟨g, 0, rfl, hg, fun i x hi j v hj => ?_⟩
  match i, hi with
  | 0, hi => simp at hi; subst hi; match j, hj with | 0, hj => simp [encP] at hj; subst hj; exact h0
  | 1, hi => simp at hi; subst hi; match j, hj with | 0, hj => simp [encP] at hj; subst hj; exact h1
  | i + 2, hi => simp at hi
theorem part3 {α : Type} {w : World} {B g : Nat} {p0 p1 p2 : Part α} (h0 : w.cell? ⟨g, 0, none⟩ = some (.slice p0.A p0.n p0.c)) (h1 : w.cell? ⟨g, 1, none⟩ = some (.slice p1.A p1.n p1.c)) (h2 : w.cell? ⟨g, 2, none⟩ = some (.slice p2.A p2.n p2.c)) (hg : g < B) : Rd w B 1 encP (some ⟨g, 0, none⟩) [p0, p1, p2] := by
  refine .inr ⟨g, 0, rfl, hg, fun i x hi j v hj => ?_⟩
  match i, hi with
  | 0, hi => simp at hi; subst hi; match j, hj with | 0, hj => simp [encP] at hj; subst hj; exact h0
  | 1, hi => simp at hi; subst hi; match j, hj with | 0, hj => simp [encP] at hj; subst hj; exact h1
  | 2, hi => simp at hi; subst hi; match j, hj with | 0, hj => simp [encP] at hj; subst hj; exact h2
  | i + 3, hi => simp at hi
/-- A slice of one definition that was made on the spot. -/
theorem sd_one {w : World} {B g : Nat} {d : D} (h0 : w.cell? ⟨g, 0, none⟩ = some (.string d.name)) (h1 : w.cell? ⟨g, 1, none⟩ = some (.int .i64 d.val)) (hg : g < B) (hd : d.ok) : SD w B (some ⟨g, 0, none⟩) 1 1 [d] := by
  refine ⟨.inr ⟨g, 0, rfl, hg, fun i x hi j v hj => ?_⟩, rfl, Nat.le_refl _, by unfold maxLen; omega, by simpa using hd⟩
  match i, hi with
  | 0, hi =>
    simp at hi; subst hi
    match j, hj with
    | 0, hj => simp [encD] at hj; subst hj; exact h0
    | 1, hj => simp [encD] at hj; subst hj; exact h1
    | j + 2, hj => simp [encD] at hj
  | i + 1, hi => simp at hi
end Go.Proofs.YtiebdhbioccogaaGreatDoor

namespace Go.Proofs.YtiebdhbioccogaaGreatDoor
open Go.RowKit
set_option linter.unusedVariables false
set_option maxRecDepth 100000

/-! ### changes -/
structure Ch where
  kind : Int
  name : ByteArray
  old : Int
  new : Int
def encK (k : Ch) : List Value := [.int .i64 k.kind, .string k.name, .int .i64 k.old, .int .i64 k.new]
def I64 (n : Int) : Prop := -9223372036854775808 ≤ n ∧ n ≤ 9223372036854775807
def Ch.ok (d : Ch) : Prop := d.name.size ≤ maxLen ∧ I64 d.kind ∧ I64 d.old ∧ I64 d.new
/-- The slice A, n, c holds the changes ks, below block B. -/
structure SK (w : World) (B : Nat) (A : Option Addr) (n c : Nat) (ks : List Ch) : Prop where
  rd : Rd w B 4 encK A ks
  len : ks.length = n
  cap : n ≤ c
  max : c ≤ maxLen
  ok : ∀ t ∈ ks, t.ok
section
variable {w w' : World} {B B' : Nat} {A : Option Addr} {n c : Nat} {ks : List Ch}
theorem SK.keep (h : SK w B A n c ks) (hk : Rd w B 4 encK A ks → Rd w' B' 4 encK A ks) : SK w' B' A n c ks := ⟨hk h.rd, h.len, h.cap, h.max, h.ok⟩
theorem SK.below (h : SK w B A n c ks) (hb : Below B w w') : SK w' B A n c ks := h.keep fun r => Rd.below r hb
theorem SK.below' {B0 : Nat} (h : SK w B A n c ks) (hb : Below B0 w w') (hB : B ≤ B0) : SK w' B A n c ks := h.keep fun r => Rd.below' r hb hB
theorem SK.more (h : SK w B A n c ks) (hB : B ≤ B') : SK w B' A n c ks := h.keep fun r => Rd.more r hB
theorem SK.drew (h : SK w B A n c ks) : SK w.drew B A n c ks := h.keep fun r => Rd.drew r
theorem SK.drewN (h : SK w B A n c ks) (k : Nat) : SK (w.drewN k) B A n c ks := h.keep fun r => Rd.drewN r k
theorem SK.alloc (h : SK w B A n c ks) (hB : B ≤ w.heap.size) (o : Obj) : SK (w.alloc o) B A n c ks := h.keep fun r => Rd.alloc r hB o
theorem SK.call (h : SK w B A n c ks) (hB : B ≤ w.heap.size) : SK w w.heap.size A n c ks := h.more hB
theorem SK.take_ (h : SK w B A n c ks) (k : Nat) (hk : k ≤ n) : SK w B A k c (ks.take k) :=
  ⟨Rd.take_ h.rd k, by have := h.len; simp; omega, by have := h.cap; omega, h.max, fun d hd => h.ok d (List.mem_of_mem_take hd)⟩
theorem SK.sl (h : SK w B A n c ks) : SL encK 4 w B A n c ks := ⟨h.rd, h.len, h.cap, h.max⟩
theorem SK.none_ (w : World) (B : Nat) : SK w B none 0 0 [] := ⟨Rd.nil_, rfl, Nat.le_refl _, by unfold maxLen; omega, by simp⟩
theorem SK.at_ (h : SK w B A n c ks) {k : Nat} (hk : k < ks.length) :
    ∃ b o, A = some ⟨b, o, none⟩ ∧ b < B ∧ w.cell? ⟨b, o + k * 4, none⟩ = some (.int .i64 ks[k].kind) ∧ w.cell? ⟨b, o + k * 4 + 1, none⟩ = some (.string ks[k].name) ∧ w.cell? ⟨b, o + k * 4 + 2, none⟩ = some (.int .i64 ks[k].old) ∧ w.cell? ⟨b, o + k * 4 + 3, none⟩ = some (.int .i64 ks[k].new) := by
  obtain ⟨b, o, hA, hb, hc⟩ := Rd.at_ h.rd hk
  exact ⟨b, o, hA, hb, hc 0 _ rfl, hc 1 _ rfl, hc 2 _ rfl, hc 3 _ rfl⟩
end
def flatK (ks : List Ch) : List Value := ks.flatMap encK
theorem flatK_cons (d : Ch) (r : List Ch) : flatK (d :: r) = .int .i64 d.kind :: .string d.name :: .int .i64 d.old :: .int .i64 d.new :: flatK r := by simp [flatK, encK]
theorem flatK_length (ks : List Ch) : (flatK ks).length = ks.length * 4 := by
  induction ks with
  | nil => rfl
  | cons d r ih => rw [flatK_cons]; simp [ih]; omega
theorem flatK_get (ks : List Ch) (i : Nat) (h : i < ks.length) : (flatK ks)[i * 4]? = some (.int .i64 ks[i].kind) ∧ (flatK ks)[i * 4 + 1]? = some (.string ks[i].name) ∧ (flatK ks)[i * 4 + 2]? = some (.int .i64 ks[i].old) ∧ (flatK ks)[i * 4 + 3]? = some (.int .i64 ks[i].new) := by
  induction ks generalizing i with
  | nil => simp at h
  | cons d r ih =>
    rw [flatK_cons]
    cases i with
    | zero => simp
    | succ i =>
      have := ih i (by simpa using h)
      rw [show (i + 1) * 4 = i * 4 + 1 + 1 + 1 + 1 from by omega, show i * 4 + 1 + 1 + 1 + 1 + 1 = (i * 4 + 1) + 1 + 1 + 1 + 1 from rfl, show i * 4 + 1 + 1 + 1 + 1 + 2 = (i * 4 + 2) + 1 + 1 + 1 + 1 from rfl, show i * 4 + 1 + 1 + 1 + 1 + 3 = (i * 4 + 3) + 1 + 1 + 1 + 1 from rfl]
      simpa using this
theorem flatK_snoc (ks : List Ch) (k : Nat) (h : k < ks.length) : flatK (ks.take (k + 1)) = flatK (ks.take k) ++ [.int .i64 ks[k].kind, .string ks[k].name, .int .i64 ks[k].old, .int .i64 ks[k].new] := by
  unfold flatK
  rw [List.take_succ_eq_append_getElem h, List.flatMap_append]
  simp only [List.flatMap_cons, List.flatMap_nil, List.append_nil]
  rfl
theorem flatK_app (xs ys : List Ch) : flatK (xs ++ ys) = flatK xs ++ flatK ys := by unfold flatK; rw [List.flatMap_append]
theorem own_drewN {w : World} {base : Nat} {e : TypeId} {sz : Nat} {v : Value} {n : Nat} {xs : List Value} (h : w.ownsRow base e sz v n xs) (m : Nat) : (w.drewN m).ownsRow base e sz v n xs := h
theorem own_some {w : World} {base : Nat} {e : TypeId} {sz : Nat} {v : Value} {n : Nat} {xs : List Value} (h : w.ownsRow base e sz v n xs) (hn : 0 < n) : v.ownBlock ≠ none := by
  rcases h.2 with ⟨_, h0⟩ | ⟨g, cap, cur, rfl, _⟩
  · omega
  · simp [Value.ownBlock]
/-- An owned row of changes reads as a slice of them. -/
theorem sk_of_own {w : World} {base n c : Nat} {A : Option Addr} {e : TypeId} {ks : List Ch} (h : w.ownsRow base e 4 (.slice A n c) n (flatK ks)) (hok : ∀ d ∈ ks, d.ok) : SK w w.heap.size A n c ks := by
  have hl : ks.length = n := by have := h.1; rw [flatK_length] at this; omega
  rcases h.2 with ⟨h1, h2⟩ | ⟨g, cap, cur, h1, hb, hg, hc, hm, hs, ht⟩
  · injection h1 with e1 e2 e3
    exact ⟨.inl (List.eq_nil_of_length_eq_zero (by omega)), hl, by omega, by subst e3; unfold maxLen; omega, hok⟩
  · injection h1 with e1 e2 e3
    subst e1 e3
    refine ⟨.inr ⟨g, 0, rfl, (Array.getElem?_eq_some_iff.1 hg).1, fun i x hi j v hj => ?_⟩, hl, hc, hm, hok⟩
    obtain ⟨hil, rfl⟩ := List.getElem?_eq_some_iff.1 hi
    obtain ⟨q1, q2, q3, q4⟩ := flatK_get ks i hil
    have hc : ∀ j, j < n * 4 → w.cell? ⟨g, j, none⟩ = (flatK ks)[j]? := fun j hj => h.cellAt j hj
    match j, hj with
    | 0, hj =>
      simp [encK] at hj
      subst hj
      rw [show 0 + i * 4 + 0 = i * 4 from by omega, hc _ (by omega)]
      exact q1
    | 1, hj =>
      simp [encK] at hj
      subst hj
      rw [show 0 + i * 4 + 1 = i * 4 + 1 from by omega, hc _ (by omega)]
      exact q2
    | 2, hj =>
      simp [encK] at hj
      subst hj
      rw [show 0 + i * 4 + 2 = i * 4 + 2 from by omega, hc _ (by omega)]
      exact q3
    | 3, hj =>
      simp [encK] at hj
      subst hj
      rw [show 0 + i * 4 + 3 = i * 4 + 3 from by omega, hc _ (by omega)]
      exact q4
    | j + 4, hj => simp [encK] at hj
section
variable {W : World} {ops : Array Oper} {rest : List Oper} {o : Oper} {a : Act} {Q : Exit → Act → World → Prop}
end
end Go.Proofs.YtiebdhbioccogaaGreatDoor

namespace Go.Proofs.YtiebdhbioccogaaGreatDoor
open Go.RowKit
set_option linter.unusedVariables false
set_option maxRecDepth 100000

/-! ### looking for a definition -/
/-- The definition d is e. -/
def isD (e d : D) : Bool := e.name.toList == d.name.toList && e.val == d.val
theorem run_eqD (a b : ByteArray) (x y : Int) (w : World) :
    (binOp .eql 108 (.agg #[.string a, .int .i64 x]) (.agg #[.string b, .int .i64 y])).run Tryz.prog w = .ok (.bool (a.toList == b.toList && x == y)) w := by
  rw [run_eql_struct]
  cases h1 : (a.toList == b.toList) <;> cases h2 : (x == y) <;> simp_all [go_sem, Op.eqFields, part]

theorem run_neD (a b : ByteArray) (x y : Int) (w : World) :
    (binOp .neq 108 (.agg #[.string a, .int .i64 x]) (.agg #[.string b, .int .i64 y])).run Tryz.prog w = .ok (.bool (!(a.toList == b.toList && x == y))) w := by
  rw [run_neq_struct]
  cases h1 : (a.toList == b.toList) <;> cases h2 : (x == y) <;> simp_all [go_sem, Op.eqFields, part]

set_option maxHeartbeats 400000 in
theorem isName_any (nm s : ByteArray) (vl : Int) (B : Nat) (w : World) (hc : w.cell? ⟨B, 0, none⟩ = some (.string s)) {v : Bool} (hv : isNm s ⟨nm, vl⟩ = v) :
    Calls Tryz.prog 180 #[.agg #[.string nm, .int .i64 vl], .pointer (some ⟨B, 0, none⟩)] w fun e w' => e = .returned (.bool v) ∧ Below w.heap.size w w' := by
  have hv1 : (nm.toList == s.toList) = v := hv
  have hb : Below w.heap.size w (w.alloc (.cells #[.string nm, .int .i64 vl] 108)) := (Below.refl _ _).alloc (Nat.le_refl _) _
  have hc1 := keep1 hb hc
  have HB := Lib.hid hb
  clear hb hv
  go_enter Tryz.func180, Tryz.ntmps180
  go_wp2
  go_ret
  exact ⟨rfl, HB.out⟩

set_option maxHeartbeats 1000000 in
theorem indexFunc_any (ds : List D) (s : ByteArray) (A : Option Addr) (n c B : Nat) (w : World) (hr : SD w w.heap.size A n c ds) (hc : w.cell? ⟨B, 0, none⟩ = some (.string s)) {v : Int} (hv : fidx (isNm s) ds = v) :
    Calls Tryz.prog 179 #[.slice A n c, .func (.func 180) #[] #[.pointer (some ⟨B, 0, none⟩)]] w fun e w' => e = .returned (.int .i64 v) ∧ Below w.heap.size w w' := by
  subst hv
  obtain rfl := hr.len
  have hl := hr.max
  have hl2 := hr.cap
  unfold maxLen at hl
  have HR := Lib.hid hr
  have HC := Lib.hid hc
  clear hr hc
  go_enter Tryz.func179, Tryz.ntmps179
  go_wp2
  go_loopw [8] (fun i wr => ∃ k : Nat, k ≤ ds.length ∧ i = .int .i64 k ∧ Hid (noTo (isNm s) ds k) ∧ Hid (Below w.heap.size w wr)) (fun i _ => ds.length - (intOf i).toNat)
  case atStart => exact ⟨0, Nat.zero_le _, rfl, Lib.hid (noTo_zero _ _), Lib.hid (Below.refl _ _)⟩
  case round =>
    obtain ⟨k, hk, rfl, hok, hbel⟩ := hrel
    by_cases hlt : k < ds.length
    · obtain ⟨b, o, rfl, hb, c1, c2⟩ := (HR.out.below hbel.out).at_ hlt
      have HC1 := Lib.hid (keep1 hbel.out HC.out)
      cases hp : isNm s ds[k]
      · have HP := Lib.hid hp
        clear hp
        go_wp2_with (go_at_call 180; refine (isName_any _ s _ B _ HC1.out HP.out).mono ?_; rintro e w1 ⟨rfl, hb1⟩; have HB1 := Lib.hid hb1; clear hb1)
        go_roundw
        case rel => exact ⟨k + 1, by omega, by go_num, Lib.hid (noTo_succ hok.out hlt HP.out), Lib.hid (hbel.out.trans (HB1.out.mono hbel.out.size))⟩
        case measure => simp [intOf]; omega
      · have HP := Lib.hid hp
        clear hp
        go_wp2_with (go_at_call 180; refine (isName_any _ s _ B _ HC1.out HP.out).mono ?_; rintro e w1 ⟨rfl, hb1⟩; have HB1 := Lib.hid hb1; clear hb1)
        go_ret
        exact ⟨ret_int (fidx_some hok.out hlt HP.out).symm, hbel.out.trans (HB1.out.mono hbel.out.size)⟩
    · obtain rfl : k = ds.length := by omega
      go_wp2
      go_ret
      exact ⟨ret_int (fidx_none hok.out).symm, hbel.out⟩

set_option maxHeartbeats 1000000 in
theorem indexOfName_v (ds : List D) (s : ByteArray) (A : Option Addr) (n c : Nat) (w : World) (hr : SD w w.heap.size A n c ds) {v : Int} (hv : fidx (isNm s) ds = v) :
    Calls Tryz.prog 156 #[.slice A n c, .string s] w fun e w' => e = .returned (.int .i64 v) ∧ Below w.heap.size w w' := by
  have hb : Below w.heap.size w (w.alloc (.cells #[.string s] 9)) := (Below.refl _ _).alloc (Nat.le_refl _) _
  have hc : (w.alloc (.cells #[.string s] 9)).cell? ⟨w.heap.size, 0, none⟩ = some (.string s) := by simp [go_sem]
  have HR := Lib.hid ((hr.below hb).call hb.size)
  have HC := Lib.hid hc
  have HB := Lib.hid hb
  have HV := Lib.hid hv
  clear hb hr hc hv
  go_enter Tryz.func156, Tryz.ntmps156
  go_wp2_with (go_at_call 179; refine (indexFunc_any ds s _ _ _ _ _ HR.out HC.out HV.out).mono ?_; rintro e w1 ⟨rfl, hb1⟩; have HB1 := Lib.hid hb1; clear hb1)
  go_ret
  exact ⟨rfl, HB.out.trans (HB1.out.mono HB.out.size)⟩

end Go.Proofs.YtiebdhbioccogaaGreatDoor

namespace Go.Proofs.YtiebdhbioccogaaGreatDoor
open Go.RowKit
set_option linter.unusedVariables false
set_option maxRecDepth 100000

theorem one_D (xs : List D) : ∀ u ∈ xs.flatMap encD, u.oneCell' = true := by
  intro u hu
  obtain ⟨d, _, hd⟩ := List.mem_flatMap.1 hu
  simp [encD] at hd
  rcases hd with rfl | rfl <;> rfl

theorem zeros_D (m : Nat) : ∀ u ∈ (Builtin.zeroCells (.agg #[.string ByteArray.empty, .int .i64 0] : Value).cells m).toList, u.oneCell' = true := by
  intro u hu
  have hc : (.agg #[.string ByteArray.empty, .int .i64 0] : Value).cells = #[.string ByteArray.empty, .int .i64 0] := by rfl
  rw [hc] at hu
  unfold Builtin.zeroCells at hu
  simp only [Array.mem_toList_iff, Array.mem_map] at hu
  obtain ⟨i, _, rfl⟩ := hu
  have h4 : i % (#[.string ByteArray.empty, .int .i64 0] : Array Value).size < 2 := Nat.mod_lt _ (by decide)
  generalize i % (#[.string ByteArray.empty, .int .i64 0] : Array Value).size = r at h4 ⊢
  match r, h4 with
  | 0, _ => rfl
  | 1, _ => rfl
  | r + 2, h => omega

/-- A fresh row of elements. -/
def FreshD (xs : List D) (w : World) (e : Ending) (w' : World) : Prop :=
  ∃ A c, e = .returned (.slice A xs.length c) ∧ w'.ownsRow w.heap.size 108 2 (.slice A xs.length c) xs.length (xs.flatMap encD) ∧ Below w.heap.size w w'

end Go.Proofs.YtiebdhbioccogaaGreatDoor

namespace Go.Proofs.YtiebdhbioccogaaGreatDoor
open Go.RowKit
set_option linter.unusedVariables false
set_option maxRecDepth 100000

/-! ### cells of the call's own -/
/-- Block b's first cell holds v and may be written. -/
def Cl (w : World) (b : Nat) (v : Value) : Prop := w.cell? ⟨b, 0, none⟩ = some v ∧ w.frozen? ⟨b, 0, none⟩ = false
theorem Cl.below {w w' : World} {b : Nat} {v : Value} (h : Cl w b v) (hb : Below w.heap.size w w') : Cl w' b v :=
  ⟨keep1 hb h.1, (hb.frozen (p := ⟨b, 0, none⟩) (World.block_lt_of_cell? _ _ h.1)).trans h.2⟩
theorem Cl.grown {w w' : World} {b : Nat} {v : Value} {row : Option Nat} (h : Cl w b v) (hg : w.grownBy w' row) (hr : some b ≠ row) : Cl w' b v :=
  ⟨hg.cell h.1 hr, by
    have hlt := World.block_lt_of_cell? _ _ h.1
    have := hg.block b hlt hr
    unfold World.frozen? at *
    simp only at this ⊢
    rw [this]; exact h.2⟩
theorem Cl.lt {w : World} {b : Nat} {v : Value} (h : Cl w b v) : b < w.heap.size := World.block_lt_of_cell? _ _ h.1
theorem Cl.drew {w : World} {b : Nat} {v : Value} (h : Cl w b v) : Cl w.drew b v := h
theorem Cl.alloc {w : World} {b : Nat} {v : Value} (h : Cl w b v) (o : Obj) : Cl (w.alloc o) b v := h.below ((Below.refl _ _).alloc (Nat.le_refl _) _)

theorem clNew {w w' : World} {v : Value} {t : TypeId} (hb : Below (w.alloc (.cells #[v] t)).heap.size (w.alloc (.cells #[v] t)) w') : Cl w' w.heap.size v :=
  Cl.below ⟨by simp [go_sem], by simp [go_sem]⟩ hb
theorem clNewD {w w' : World} {v : Value} {t : TypeId} (hb : Below (w.drew.alloc (.cells #[v] t)).heap.size (w.drew.alloc (.cells #[v] t)) w') : Cl w' w.heap.size v := clNew (w := w.drew) hb
theorem clNewLt {w w' : World} {v : Value} {t : TypeId} (hb : Below (w.alloc (.cells #[v] t)).heap.size (w.alloc (.cells #[v] t)) w') : w.heap.size < (w.alloc (.cells #[v] t)).heap.size := by simp
/-- A result that lies in a cell of its own beside its row: the cell was made last. -/
theorem cutA {k wr : World} {base n sz c0 : Nat} {ty t : TypeId} {A0 : Option Addr} {xs : List Value} (ho : wr.ownsRow base ty sz (.slice A0 n c0) n xs) (hbase : k.heap.size ≤ base) (hb : Below k.heap.size k wr) :
    (wr.alloc (.cells #[.slice A0 n c0] t)).cell? ⟨wr.heap.size, 0, none⟩ = some (.slice A0 n c0) ∧ (wr.alloc (.cells #[.slice A0 n c0] t)).ownsRow k.heap.size ty sz (.slice A0 n c0) n xs ∧ k.heap.size ≤ wr.heap.size ∧
      (∀ q, (Value.slice A0 n c0).ownBlock = some q → k.heap.size ≤ q ∧ q < (wr.alloc (.cells #[.slice A0 n c0] t)).heap.size) ∧ Below k.heap.size k (wr.alloc (.cells #[.slice A0 n c0] t)) ∧ (Value.slice A0 n c0).ownBlock ≠ some wr.heap.size :=
  ⟨by simp [go_sem], own_base (ho.alloc _) hbase, hb.size, fun q hq => by have := ho.lt q hq; simp; omega, hb.alloc hb.size _, fun e => by have := (ho.lt _ e).2; simp at this⟩
/-- .. the cell was there ahead of the row. -/
theorem cutB {k wr : World} {base n sz c0 g : Nat} {ty : TypeId} {A0 : Option Addr} {xs : List Value} {v : Value} (ho : wr.ownsRow base ty sz (.slice A0 n c0) n xs) (hbase : k.heap.size ≤ base) (hb : Below k.heap.size k wr) (hc : Cl wr g v) (hg : g < base) (hk : k.heap.size ≤ g) :
    (wr.setCell ⟨g, 0, none⟩ (.slice A0 n c0)).cell? ⟨g, 0, none⟩ = some (.slice A0 n c0) ∧ (wr.setCell ⟨g, 0, none⟩ (.slice A0 n c0)).ownsRow k.heap.size ty sz (.slice A0 n c0) n xs ∧ k.heap.size ≤ g ∧
      (∀ q, (Value.slice A0 n c0).ownBlock = some q → k.heap.size ≤ q ∧ q < (wr.setCell ⟨g, 0, none⟩ (.slice A0 n c0)).heap.size) ∧ Below k.heap.size k (wr.setCell ⟨g, 0, none⟩ (.slice A0 n c0)) ∧ (Value.slice A0 n c0).ownBlock ≠ some g :=
  ⟨World.cell?_setCell_same' _ _ _ (by rw [hc.1]; rfl), own_base (own_setCell ho (fun e => by have := (ho.lt _ e).1; simp at this; omega) _) hbase, hk, fun q hq => by have := ho.lt q hq; rw [World.size_setCell]; omega, hb.setCell hk _, fun e => by have := (ho.lt _ e).1; omega⟩
/-- A row of one's own, read in a world a little later. -/
theorem sdCall {w w' : World} {base n c : Nat} {A : Option Addr} {ds : List D} (h : w.ownsRow base 108 2 (.slice A n c) n (flat ds)) (hok : ∀ d ∈ ds, d.ok) (hb : Below w.heap.size w w') : SD w' w'.heap.size A n c ds :=
  sd_of_own (own_below h hb) hok

/-! ### what the functions of a changed enumeration answer -/
/-- An enumeration in new memory, and whether there is one. -/
def EnumR (ms : List D) (ok : Bool) (w : World) (e : Ending) (w' : World) : Prop :=
  ∃ A c, e = .returned (.tuple #[.agg #[.slice A ms.length c], .bool ok]) ∧ w'.ownsRow w.heap.size 108 2 (.slice A ms.length c) ms.length (flat ms) ∧ Below w.heap.size w w'
/-- An enumeration in new memory. -/
def EnumE (ms : List D) (w : World) (e : Ending) (w' : World) : Prop :=
  ∃ A c, e = .returned (.agg #[.slice A ms.length c]) ∧ w'.ownsRow w.heap.size 108 2 (.slice A ms.length c) ms.length (flat ms) ∧ Below w.heap.size w w'
/-- An enumeration in new memory, or none. -/
def EnumP (o : Option (List D)) (w : World) (e : Ending) (w' : World) : Prop :=
  ∃ A c, e = .returned (.tuple #[.agg #[.slice A (o.getD []).length c], .bool o.isSome]) ∧ w'.ownsRow w.heap.size 108 2 (.slice A (o.getD []).length c) (o.getD []).length (flat (o.getD [])) ∧ Below w.heap.size w w'
theorem enumP_none {w w' : World} (hb : Below w.heap.size w w') : EnumP none w (.returned (.tuple #[.agg #[.slice none 0 0], .bool false])) w' := ⟨none, 0, rfl, World.ownsRow_nil _ _ _ _, hb⟩
def chkO (ds : List D) : Option (List D) := if vEnum ds then some ds else none
theorem chkO_len (ds : List D) : ((chkO ds).getD []).length ≤ 12 := by
  unfold chkO
  cases h : vEnum ds
  · exact Nat.zero_le _
  · exact vEnum_len h
theorem chkO_mem {ds : List D} {x : D} (h : x ∈ (chkO ds).getD []) : x ∈ ds := by
  unfold chkO at h
  cases hv : vEnum ds
  · rw [hv] at h; cases h
  · rw [hv] at h; exact h
/-- What checking hands on. -/
def ChkQ (v : Bool) (A : Option Addr) (n c : Nat) (A' : Option Addr) (n' c' : Nat) : Prop := if v then A' = A ∧ n' = n ∧ c' = c else A' = none ∧ n' = 0 ∧ c' = 0
theorem chkQ_own {w : World} {base n c n' c' : Nat} {A A' : Option Addr} {ds : List D} (h : w.ownsRow base 108 2 (.slice A n c) n (flat ds)) (hq : ChkQ (vEnum ds) A n c A' n' c') :
    n' = ((chkO ds).getD []).length ∧ (chkO ds).isSome = vEnum ds ∧ w.ownsRow base 108 2 (.slice A' n' c') n' (flat ((chkO ds).getD [])) := by
  have hl : ds.length = n := by have := h.1; rw [flat_length] at this; omega
  unfold ChkQ at hq
  unfold chkO
  cases hv : vEnum ds
  · rw [hv] at hq
    obtain ⟨rfl, rfl, rfl⟩ := hq
    exact ⟨rfl, rfl, World.ownsRow_nil _ _ _ _⟩
  · rw [hv] at hq
    obtain ⟨rfl, rfl, rfl⟩ := hq
    exact ⟨hl.symm, rfl, h⟩
def ChkP (v : Bool) (A : Option Addr) (n c : Nat) (w : World) (e : Ending) (w' : World) : Prop :=
  ∃ A' n' c', e = .returned (.tuple #[.agg #[.slice A' n' c'], .bool v]) ∧ ChkQ v A n c A' n' c' ∧ Below w.heap.size w w'
theorem enumP_chk {ds : List D} {w w' : World} {A A' : Option Addr} {n c n' c' : Nat} (h : w'.ownsRow w.heap.size 108 2 (.slice A n c) n (flat ds)) (hq : ChkQ (vEnum ds) A n c A' n' c') (hb : Below w.heap.size w w') :
    EnumP (chkO ds) w (.returned (.tuple #[.agg #[.slice A' n' c'], .bool (vEnum ds)])) w' := by
  obtain ⟨h1, h2, h3⟩ := chkQ_own h hq
  unfold EnumP
  rw [← h1, h2]
  exact ⟨A', c', rfl, h3, hb⟩

/-- Definitions with one more: an enumeration, or none. -/
def mAdd (ds : List D) (d : D) : Option (List D) := if vEnum ds then chkO (ds ++ [d]) else none
theorem mAdd_no {ds : List D} {d : D} (h : vEnum ds = false) : mAdd ds d = none := by unfold mAdd; rw [h]; rfl
theorem mAdd_yes {ds : List D} {d : D} (h : vEnum ds = true) : mAdd ds d = chkO (ds ++ [d]) := by unfold mAdd; rw [h]; rfl

theorem mAdd_len (ds : List D) (d : D) : ((mAdd ds d).getD []).length ≤ 12 := by
  unfold mAdd; split
  · exact chkO_len _
  · exact Nat.zero_le _
theorem mAdd_mem {ds : List D} {d x : D} (h : x ∈ (mAdd ds d).getD []) : x ∈ ds ∨ x = d := by
  unfold mAdd at h; split at h
  · simpa using chkO_mem h
  · cases h

theorem keepS {w : World} {b o b' : Nat} {v u : Value} (h : w.cell? ⟨b, o, none⟩ = some v) (hne : b ≠ b') : (w.setCell ⟨b', 0, none⟩ u).cell? ⟨b, o, none⟩ = some v := by
  rw [World.cell?_setCell_other _ _ _ _ (fun e => hne (by injection e with e1; exact e1.symm))]; exact h
theorem keepA {w : World} {p : Addr} {v : Value} (h : w.cell? p = some v) {o : Obj} : (w.alloc o).cell? p = some v :=
  (World.cell?_alloc_lt w o p (World.block_lt_of_cell? _ _ h)).trans h

end Go.Proofs.YtiebdhbioccogaaGreatDoor

namespace Go.Proofs.YtiebdhbioccogaaGreatDoor
open Go.RowKit
set_option linter.unusedVariables false
set_option maxRecDepth 100000

/-! ### rows of definitions -/
def marksD (k0 : Int) (k : Nat) : List Value := (List.range k).flatMap fun i => [.string (mk (k0 + 2 * (i : Nat))), .int .i64 (k0 + 2 * (i : Nat) + 1)]
theorem marksD_succ (k0 : Int) (k : Nat) : marksD k0 (k + 1) = marksD k0 k ++ [.string (mk (k0 + 2 * k)), .int .i64 (k0 + 2 * k + 1)] := by
  unfold marksD; rw [List.range_succ, List.flatMap_append]; simp
theorem marksD_length (k0 : Int) (k : Nat) : (marksD k0 k).length = k * 2 := by
  induction k with
  | zero => rfl
  | succ k ih => rw [marksD_succ]; simp [ih]; omega
theorem marksD_get (k0 : Int) (n k : Nat) (h : k < n) : (marksD k0 n)[k * 2]? = some (.string (mk (k0 + 2 * k))) ∧ (marksD k0 n)[k * 2 + 1]? = some (.int .i64 (k0 + 2 * k + 1)) := by
  induction n with
  | zero => omega
  | succ n ih =>
    rw [marksD_succ]
    by_cases e : k = n
    · subst e
      rw [List.getElem?_append_right (by rw [marksD_length]; omega), List.getElem?_append_right (by rw [marksD_length]; omega), marksD_length]
      simp
    · rw [List.getElem?_append_left (by rw [marksD_length]; omega), List.getElem?_append_left (by rw [marksD_length]; omega)]
      exact ih (by omega)





/-! ### eqStringS -/
set_option maxHeartbeats 1000000 in
theorem eqStringS_any (ss : List ByteArray) (A A2 : Option Addr) (c c2 n n2 : Nat) (w : World) (hr : SS w w.heap.size A n c ss) (hr2 : SS w w.heap.size A2 n2 c2 ss) :
    Calls Tryz.prog 9 #[.slice A n c, .slice A2 n2 c2] w fun e w' => e = .returned (.bool true) ∧ Below w.heap.size w w' := by
  obtain rfl := hr.len
  obtain rfl := hr2.len
  have hl := hr.max
  have hl2 := hr.cap
  unfold maxLen at hl
  have HR := Lib.hid hr
  have HR2 := Lib.hid hr2
  clear hr hr2
  go_enter Tryz.func9, Tryz.ntmps9
  go_wp2
  go_loopw [5] (fun i wr => ∃ (k : Nat), k ≤ ss.length ∧ i = .int .i64 k ∧ Hid (Below w.heap.size w wr)) (fun i _ => ss.length - (intOf i).toNat)
  case atStart => exact ⟨0, Nat.zero_le _, rfl, Lib.hid (Below.refl _ _)⟩
  case round =>
    obtain ⟨k, hk, rfl, hbel⟩ := hrel
    by_cases hlt : k < ss.length
    · obtain ⟨b, o, rfl, hb, c1⟩ := (HR.out.below hbel.out).at_ hlt
      obtain ⟨b', o', rfl, hb', c1'⟩ := (HR2.out.below hbel.out).at_ hlt
      have hi1 : (k : Int) < (ss.length : Int) := by omega
      have hi0 : (0 : Int) ≤ (k : Int) := by omega
      go_wp2
      go_quiet (fail)
      go_wp2
      go_roundw
      case rel => exact ⟨k + 1, by omega, by go_num, Lib.hid (below_drewN hbel.out _)⟩
      case measure => simp [intOf]; omega
    · obtain rfl : k = ss.length := by omega
      go_wp2
      go_ret
      exact ⟨rfl, hbel.out⟩

/-! ### numbers -/
def marksI (k0 : Int) (k : Nat) : List Value := (List.range k).map fun i => .int .i64 (k0 + (i : Nat))
theorem marksI_succ (k0 : Int) (k : Nat) : marksI k0 (k + 1) = marksI k0 k ++ [.int .i64 (k0 + k)] := by
  unfold marksI; rw [List.range_succ, List.map_append]; rfl
theorem marksI_get (k0 : Int) (n k : Nat) (h : k < n) : (marksI k0 n)[k]? = some (.int .i64 (k0 + k)) := by
  unfold marksI; rw [List.getElem?_map, List.getElem?_range h]; rfl




theorem own_ne {W W' : World} {b1 b2 s1 s2 n1 n2 : Nat} {e1 e2 : TypeId} {v1 v2 : Value} {x1 x2 : List Value} (h1 : W.ownsRow b1 e1 s1 v1 n1 x1) (h2 : W'.ownsRow b2 e2 s2 v2 n2 x2) (hle : W.heap.size ≤ b2) : v1.ownBlock = none ∨ v1.ownBlock ≠ v2.ownBlock := by
  cases hk : v1.ownBlock with
  | none => exact .inl rfl
  | some k =>
    refine .inr fun e => ?_
    have q1 := h1.lt k hk
    have q2 := h2.lt k e.symm
    omega
theorem own_sym {v1 v2 : Value} (h : v1.ownBlock = none ∨ v1.ownBlock ≠ v2.ownBlock) : v2.ownBlock = none ∨ v2.ownBlock ≠ v1.ownBlock := by
  rcases h with h | h
  · cases e : v2.ownBlock with
    | none => exact .inl rfl
    | some k => exact .inr (by rw [h]; exact fun h => by cases h)
  · exact .inr (Ne.symm h)

/-- A fresh slice of numbers. -/
def flatI (ss : List Int) : List Value := ss.map (Value.int .i64)
theorem flatI_length (ss : List Int) : (flatI ss).length = ss.length := by simp [flatI]
def IntsP (ss : List Int) (w : World) (e : Ending) (w' : World) : Prop :=
  ∃ A c, e = .returned (.slice A ss.length c) ∧ w'.ownsRow w.heap.size 3 1 (.slice A ss.length c) ss.length (flatI ss) ∧ Below w.heap.size w w'
theorem si_of_own {w : World} {base n c : Nat} {A : Option Addr} {e : TypeId} {ss : List Int} (h : w.ownsRow base e 1 (.slice A n c) n (flatI ss)) (hok : ∀ s ∈ ss, -9223372036854775808 ≤ s ∧ s ≤ 9223372036854775807) : SI w w.heap.size A n c ss := by
  have hl : ss.length = n := by have := h.1; rw [flatI_length] at this; omega
  rcases h.2 with ⟨h1, h2⟩ | ⟨g, cap, cur, h1, hb, hg, hc, hm, hs, ht⟩
  · injection h1 with e1 e2 e3
    exact ⟨.inl (List.eq_nil_of_length_eq_zero (by omega)), hl, by omega, by subst e3; unfold maxLen; omega, hok⟩
  · injection h1 with e1 e2 e3
    subst e1 e3
    refine ⟨.inr ⟨g, 0, rfl, (Array.getElem?_eq_some_iff.1 hg).1, fun i x hi j v hj => ?_⟩, hl, hc, hm, hok⟩
    obtain ⟨hil, rfl⟩ := List.getElem?_eq_some_iff.1 hi
    match j, hj with
    | 0, hj =>
      simp [encI] at hj
      subst hj
      rw [show 0 + i * 1 + 0 = i from by omega, h.cellAt i (by omega)]
      unfold flatI
      rw [List.getElem?_map, List.getElem?_eq_getElem hil]
      rfl
    | j + 1, hj => simp [encI] at hj
end Go.Proofs.YtiebdhbioccogaaGreatDoor

namespace Go.Proofs.YtiebdhbioccogaaGreatDoor
open Go.RowKit Go.Maps
set_option linter.unusedVariables false
set_option maxRecDepth 100000

/-! ### the least and the greatest value -/
def valAt (ds : List D) (k : Nat) : Int := match ds[k]? with | some d => d.val | none => 0
theorem valAt_get (ds : List D) (k : Nat) (h : k < ds.length) : valAt ds k = ds[k].val := by unfold valAt; rw [List.getElem?_eq_getElem h]
def loTo (ds : List D) : Nat → Int
  | 0 => valAt ds 0
  | k + 1 => min (loTo ds k) (valAt ds k)
def hiTo (ds : List D) : Nat → Int
  | 0 => valAt ds 0
  | k + 1 => max (hiTo ds k) (valAt ds k)
def lo (ds : List D) : Int := loTo ds ds.length
def hi (ds : List D) : Int := hiTo ds ds.length
theorem loTo_in (ds : List D) (h : ds ≠ []) (k : Nat) (hk : k ≤ ds.length) : ∃ d ∈ ds, d.val = loTo ds k := by
  have h0 : 0 < ds.length := List.length_pos_iff.2 h
  induction k with
  | zero => exact ⟨ds[0], List.getElem_mem h0, (valAt_get ds 0 h0).symm⟩
  | succ k ih =>
    obtain ⟨d, hd, e⟩ := ih (by omega)
    show ∃ d ∈ ds, d.val = min (loTo ds k) (valAt ds k)
    rcases Int.le_total (loTo ds k) (valAt ds k) with h1 | h1
    · rw [Int.min_eq_left h1]; exact ⟨d, hd, e⟩
    · rw [Int.min_eq_right h1]; exact ⟨ds[k], List.getElem_mem _, (valAt_get ds k (by omega)).symm⟩
theorem hiTo_in (ds : List D) (h : ds ≠ []) (k : Nat) (hk : k ≤ ds.length) : ∃ d ∈ ds, d.val = hiTo ds k := by
  have h0 : 0 < ds.length := List.length_pos_iff.2 h
  induction k with
  | zero => exact ⟨ds[0], List.getElem_mem h0, (valAt_get ds 0 h0).symm⟩
  | succ k ih =>
    obtain ⟨d, hd, e⟩ := ih (by omega)
    show ∃ d ∈ ds, d.val = max (hiTo ds k) (valAt ds k)
    rcases Int.le_total (hiTo ds k) (valAt ds k) with h1 | h1
    · rw [Int.max_eq_right h1]; exact ⟨ds[k], List.getElem_mem _, (valAt_get ds k (by omega)).symm⟩
    · rw [Int.max_eq_left h1]; exact ⟨d, hd, e⟩
theorem lo_le_hi (ds : List D) (k : Nat) : loTo ds k ≤ hiTo ds k := by
  induction k with
  | zero => exact Int.le_refl _
  | succ k ih =>
    show min (loTo ds k) (valAt ds k) ≤ max (hiTo ds k) (valAt ds k)
    omega
theorem fidx_of_mem {ds : List D} {d : D} (h : d ∈ ds) : ¬ fidx (isVal d.val) ds < 0 := by
  rcases fidx_cases (isVal d.val) ds with ⟨h1, hn⟩ | ⟨j, hj, h1, _⟩
  · obtain ⟨i, hi, rfl⟩ := List.mem_iff_getElem.1 h
    have := hn i hi hi
    unfold isVal at this; simp at this
  · omega

/-- The values from l on, k of them, that no definition has. -/
def gapsTo (ds : List D) (l : Int) : Nat → List Int
  | 0 => []
  | k + 1 => gapsTo ds l k ++ if fidx (isVal (l + k)) ds < 0 then [l + (k : Int)] else []
theorem gapsTo_mono (ds : List D) (l : Int) (k m : Nat) (h : k ≤ m) : (gapsTo ds l k).length ≤ (gapsTo ds l m).length := by
  induction m with
  | zero =>
    obtain rfl : k = 0 := by omega
    exact Nat.le_refl _
  | succ m ih =>
    by_cases e : k = m + 1
    · subst e; exact Nat.le_refl _
    · have := ih (by omega)
      show _ ≤ (gapsTo ds l m ++ _).length
      rw [List.length_append]
      omega
theorem gapsTo_in (ds : List D) (l : Int) (k : Nat) : ∀ t ∈ gapsTo ds l k, l ≤ t ∧ t < l + k := by
  induction k with
  | zero => intro t h; cases h
  | succ k ih =>
    intro t h
    unfold gapsTo at h
    rcases List.mem_append.1 h with h | h
    · have := ih t h; omega
    · split at h
      · simp at h; omega
      · cases h
def mGaps (ds : List D) : List Int :=
  if vEnum ds = true ∧ ds ≠ [] then (if 30 < (gapsTo ds (lo ds) (hi ds - lo ds).toNat).length then [] else gapsTo ds (lo ds) (hi ds - lo ds).toNat) else []
theorem mGaps_no {ds : List D} (h : vEnum ds = false ∨ ds = []) : mGaps ds = [] := by
  unfold mGaps
  rw [if_neg]
  intro ⟨h1, h2⟩
  rcases h with h | h
  · rw [h1] at h; cases h
  · exact h2 h
theorem mGaps_many {ds : List D} (h1 : vEnum ds = true) (h2 : ds ≠ []) (k : Nat) (hk : k ≤ (hi ds - lo ds).toNat) (h : 30 < (gapsTo ds (lo ds) k).length) : mGaps ds = [] := by
  unfold mGaps
  rw [if_pos ⟨h1, h2⟩, if_pos (Nat.lt_of_lt_of_le h (gapsTo_mono _ _ _ _ hk))]
theorem mGaps_few {ds : List D} (h1 : vEnum ds = true) (h2 : ds ≠ []) (h : ¬ 30 < (gapsTo ds (lo ds) (hi ds - lo ds).toNat).length) : mGaps ds = gapsTo ds (lo ds) (hi ds - lo ds).toNat := by
  unfold mGaps
  rw [if_pos ⟨h1, h2⟩, if_neg h]
theorem range_in {ds : List D} (h1 : vEnum ds = true) (h2 : ds ≠ []) : -1000 ≤ lo ds ∧ lo ds ≤ hi ds ∧ hi ds ≤ 1000 := by
  obtain ⟨d, hd, e⟩ := loTo_in ds h2 ds.length (Nat.le_refl _)
  obtain ⟨d', hd', e'⟩ := hiTo_in ds h2 ds.length (Nat.le_refl _)
  have := vEnum_val h1 d hd
  have := vEnum_val h1 d' hd'
  have := lo_le_hi ds ds.length
  unfold lo hi
  omega
theorem mGaps_ok (ds : List D) : ∀ t ∈ mGaps ds, -9223372036854775808 ≤ t ∧ t ≤ 9223372036854775807 := by
  unfold mGaps
  split
  · rename_i h
    have := range_in h.1 h.2
    split
    · intro t ht; cases ht
    · intro t ht
      have := gapsTo_in _ _ _ t ht
      omega
  · intro t ht; cases ht
theorem mGaps_len (ds : List D) : (mGaps ds).length ≤ 30 := by
  unfold mGaps
  split
  · split
    · simp
    · omega
  · simp

theorem hiTo_bd {ds : List D} (hv : vEnum ds = true) (hne : ds ≠ []) (k : Nat) : hiTo ds k ≤ 1000000 ∧ -1000000 ≤ hiTo ds k := by
  have key : ∀ k, -1000 ≤ valAt ds k ∧ valAt ds k ≤ 1000 := by
    intro k
    unfold valAt
    split
    · rename_i d e; exact vEnum_val hv d (List.mem_of_getElem? e)
    · omega
  induction k with
  | zero => have := key 0; show valAt ds 0 ≤ _ ∧ _ ≤ valAt ds 0; omega
  | succ k ih => have := key k; show max (hiTo ds k) (valAt ds k) ≤ _ ∧ _ ≤ max (hiTo ds k) (valAt ds k); omega
theorem gapsTo_succ (ds : List D) (l : Int) (k : Nat) : gapsTo ds l (k + 1) = gapsTo ds l k ++ if fidx (isVal (l + k)) ds < 0 then [l + (k : Int)] else [] := rfl
theorem gapsTo_len (ds : List D) (l : Int) (k : Nat) : (gapsTo ds l k).length ≤ k := by
  induction k with
  | zero => exact Nat.le_refl _
  | succ k ih =>
    rw [gapsTo_succ, List.length_append]
    split <;> simp <;> omega

end Go.Proofs.YtiebdhbioccogaaGreatDoor

namespace Go.Proofs.YtiebdhbioccogaaGreatDoor
open Go.RowKit
set_option linter.unusedVariables false
set_option maxRecDepth 100000

/-! ### items -/
structure It where
  name : ByteArray
  auto : Bool
  val : Int
def encT (t : It) : List Value := [.string t.name, .bool t.auto, .int .i64 t.val]
def It.ok (d : It) : Prop := d.name.size ≤ maxLen ∧ -9223372036854775808 ≤ d.val ∧ d.val ≤ 9223372036854775807
/-- The slice A, n, c holds the items ts, below block B. -/
structure ST (w : World) (B : Nat) (A : Option Addr) (n c : Nat) (ts : List It) : Prop where
  rd : Rd w B 3 encT A ts
  len : ts.length = n
  cap : n ≤ c
  max : c ≤ maxLen
  ok : ∀ t ∈ ts, t.ok
section
variable {w w' : World} {B B' : Nat} {A : Option Addr} {n c : Nat} {ts : List It}
theorem ST.keep (h : ST w B A n c ts) (hk : Rd w B 3 encT A ts → Rd w' B' 3 encT A ts) : ST w' B' A n c ts := ⟨hk h.rd, h.len, h.cap, h.max, h.ok⟩
theorem ST.below (h : ST w B A n c ts) (hb : Below B w w') : ST w' B A n c ts := h.keep fun r => Rd.below r hb
theorem ST.below' {B0 : Nat} (h : ST w B A n c ts) (hb : Below B0 w w') (hB : B ≤ B0) : ST w' B A n c ts := h.keep fun r => Rd.below' r hb hB
theorem ST.more (h : ST w B A n c ts) (hB : B ≤ B') : ST w B' A n c ts := h.keep fun r => Rd.more r hB
theorem ST.drew (h : ST w B A n c ts) : ST w.drew B A n c ts := h.keep fun r => Rd.drew r
theorem ST.drewN (h : ST w B A n c ts) (k : Nat) : ST (w.drewN k) B A n c ts := h.keep fun r => Rd.drewN r k
theorem ST.alloc (h : ST w B A n c ts) (hB : B ≤ w.heap.size) (o : Obj) : ST (w.alloc o) B A n c ts := h.keep fun r => Rd.alloc r hB o
theorem ST.call (h : ST w B A n c ts) (hB : B ≤ w.heap.size) : ST w w.heap.size A n c ts := h.more hB
theorem ST.at_ (h : ST w B A n c ts) {k : Nat} (hk : k < ts.length) :
    ∃ b o, A = some ⟨b, o, none⟩ ∧ b < B ∧ w.cell? ⟨b, o + k * 3, none⟩ = some (.string ts[k].name) ∧ w.cell? ⟨b, o + k * 3 + 1, none⟩ = some (.bool ts[k].auto) ∧ w.cell? ⟨b, o + k * 3 + 2, none⟩ = some (.int .i64 ts[k].val) := by
  obtain ⟨b, o, hA, hb, hc⟩ := Rd.at_ h.rd hk
  exact ⟨b, o, hA, hb, hc 0 _ rfl, hc 1 _ rfl, hc 2 _ rfl⟩
end

/-! ### what is built of items -/
/-- The next value behind ds. -/
def nxt (ds : List D) : Int := if ds = [] then 1 else IntKind.i64.wrap (hi ds + 1)
def bldD (ds : List D) (t : It) : D := ⟨t.name, if t.auto then nxt ds else t.val⟩
/-- The definitions of the first k items. -/
def bld (ts : List It) : Nat → List D
  | 0 => []
  | k + 1 => bld ts k ++ (match ts[k]? with | some t => [bldD (bld ts k) t] | none => [])
theorem bld_succ (ts : List It) (k : Nat) (h : k < ts.length) : bld ts (k + 1) = bld ts k ++ [bldD (bld ts k) ts[k]] := by
  show bld ts k ++ _ = _
  rw [List.getElem?_eq_getElem h]
theorem bld_len (ts : List It) (k : Nat) (h : k ≤ ts.length) : (bld ts k).length = k := by
  induction k with
  | zero => rfl
  | succ k ih => rw [bld_succ ts k (by omega), List.length_append, ih (by omega)]; rfl
theorem bld_take (ts : List It) (k m : Nat) (hkm : k ≤ m) (h : m ≤ ts.length) : (bld ts m).take k = bld ts k := by
  induction m with
  | zero =>
    obtain rfl : k = 0 := by omega
    rfl
  | succ m ih =>
    by_cases e : k = m + 1
    · subst e; rw [List.take_of_length_le (by rw [bld_len ts _ h]; exact Nat.le_refl _)]
    · rw [bld_succ ts m (by omega), List.take_append_of_le_length (by rw [bld_len ts m (by omega)]; omega), ih (by omega) (by omega)]
theorem bld_get (ts : List It) (k m : Nat) (hkm : k < m) (h : m ≤ ts.length) : (bld ts m)[k]? = some (bldD (bld ts k) (ts[k]'(by omega))) := by
  have h1 : ((bld ts m).take (k + 1))[k]? = (bld ts m)[k]? := by rw [List.getElem?_take, if_pos (by omega)]
  rw [← h1, bld_take ts (k + 1) m (by omega) h, bld_succ ts k (by omega), List.getElem?_append_right (by rw [bld_len ts k (by omega)]; exact Nat.le_refl _), bld_len ts k (by omega)]
  simp
/-- The name of an item comes twice among the first k. -/
def isTn (s : ByteArray) (t : It) : Bool := t.name.toList == s.toList
def goodT (lo hi : Int) (ts : List It) (i : Nat) (t : It) : Bool :=
  vName t.name && !(t.auto && t.val != 0) && (decide (lo ≤ t.val) && decide (t.val ≤ hi)) && !(ts.take i).any (isTn t.name)
def goodsT (lo hi : Int) (ts : List It) (k : Nat) : Prop := ∀ i (h : i < ts.length), i < k → goodT lo hi ts i ts[i] = true
instance (lo hi : Int) (ts : List It) (k : Nat) : Decidable (goodsT lo hi ts k) := by unfold goodsT; infer_instance
def vItems (lo hi : Int) (ts : List It) : Bool := decide (goodsT lo hi ts ts.length) && decide (ts.length ≤ 12)
theorem goodsT_zero (lo hi : Int) (ts : List It) : goodsT lo hi ts 0 := fun i _ h => absurd h (by omega)
theorem goodsT_succ {lo hi : Int} {ts : List It} {k : Nat} (h : goodsT lo hi ts k) (hk : k < ts.length) (hp : goodT lo hi ts k ts[k] = true) : goodsT lo hi ts (k + 1) := by
  intro i hi hik
  by_cases e : i = k
  · subst e; exact hp
  · exact h i hi (by omega)
theorem vItems_bad {lo hi : Int} {ts : List It} {k : Nat} (hk : k < ts.length) (hp : goodT lo hi ts k ts[k] = false) : vItems lo hi ts = false := by
  unfold vItems
  rw [decide_eq_false (fun h => by have := h k hk hk; rw [hp] at this; cases this)]
  rfl
theorem vItems_end {lo hi : Int} {ts : List It} (h : goodsT lo hi ts ts.length) : vItems lo hi ts = decide (ts.length ≤ 12) := by
  unfold vItems; rw [decide_eq_true h]; rfl

/-- Whether BuildEnum has an answer. -/
def built (ts : List It) : Bool := vItems (-1000) 1000 ts && vEnum (bld ts ts.length)
def mBuild (ts : List It) : List D := if built ts then bld ts ts.length else []
/-- No item of the first k has both ways of telling its value. -/
def onceTo (ts : List It) (k : Nat) : Prop := ∀ i (h : i < ts.length), i < k → (ts[i].auto && ts[i].val != 0) = false
theorem onceTo_zero (ts : List It) : onceTo ts 0 := fun i _ h => absurd h (by omega)
theorem onceTo_succ {ts : List It} {k : Nat} (h : onceTo ts k) (hk : k < ts.length) (hp : (ts[k].auto && ts[k].val != 0) = false) : onceTo ts (k + 1) := by
  intro i hi hik
  by_cases e : i = k
  · subst e; exact hp
  · exact h i hi (by omega)
/-- What has valid definitions has valid items. -/
theorem built_of {ts : List It} (h1 : onceTo ts ts.length) (h2 : ts.length ≤ 12) : built ts = vEnum (bld ts ts.length) := by
  unfold built
  cases hv : vEnum (bld ts ts.length)
  · simp
  · rw [Bool.and_true]
    unfold vItems
    rw [decide_eq_true h2, Bool.and_true, decide_eq_true_eq]
    intro i hi _
    have hg := vEnum_good hv i (by rw [bld_len _ _ (Nat.le_refl _)]; exact hi) (by rw [bld_len _ _ (Nat.le_refl _)]; exact hi)
    have hget : (bld ts ts.length)[i]'(by rw [bld_len _ _ (Nat.le_refl _)]; exact hi) = bldD (bld ts i) ts[i] := by
      have := bld_get ts i ts.length hi (Nat.le_refl _)
      rw [List.getElem?_eq_getElem (by rw [bld_len _ _ (Nat.le_refl _)]; exact hi)] at this
      exact Option.some.inj this
    rw [hget] at hg
    unfold goodAt at hg
    simp only [Bool.and_eq_true, decide_eq_true_eq] at hg
    obtain ⟨⟨g1, g2⟩, g3⟩ := hg
    rw [bld_take _ _ _ (by omega) (Nat.le_refl _)] at g3
    have ho := h1 i hi hi
    unfold goodT
    simp only [Bool.and_eq_true, decide_eq_true_eq, Bool.not_eq_true', ho, and_true]
    refine ⟨⟨g1, ?_⟩, ?_⟩
    · by_cases ha : ts[i].auto = true
      · rw [ha] at ho
        simp at ho
        omega
      · have : (bldD (bld ts i) ts[i]).val = ts[i].val := by unfold bldD; simp [ha]
        rw [this] at g2; exact g2
    · rw [List.any_eq_false]
      intro t ht
      obtain ⟨j, hj, rfl⟩ := List.mem_iff_getElem.1 ht
      have hj' : j < i := by simp at hj; omega
      rw [List.getElem_take]
      intro he
      have hjb : j < (bld ts i).length := by rw [bld_len _ _ (by omega)]; exact hj'
      rcases fidx_cases (isNm (bldD (bld ts i) ts[i]).name) (bld ts i) with ⟨_, hn⟩ | ⟨m, hm, h1, _⟩
      · have h3 := hn j hjb hjb
        have hget2 : (bld ts i)[j] = bldD (bld ts j) ts[j] := by
          have := bld_get ts j i hj' (by omega)
          rw [List.getElem?_eq_getElem hjb] at this
          exact Option.some.inj this
        rw [hget2] at h3
        have h4 : isNm ts[i].name (bldD (bld ts j) ts[j]) = true := he
        have h5 : isNm (bldD (bld ts i) ts[i]).name (bldD (bld ts j) ts[j]) = true := h4
        rw [h5] at h3; cases h3
      · omega
theorem built_not {ts : List It} (h : (∃ i, ∃ hi : i < ts.length, (ts[i].auto && ts[i].val != 0) = true) ∨ 12 < ts.length) : built ts = false := by
  unfold built
  have : vItems (-1000) 1000 ts = false := by
    rcases h with ⟨i, hi, h⟩ | h
    · exact vItems_bad hi (by unfold goodT; rw [h]; simp)
    · unfold vItems; rw [decide_eq_false (show ¬ ts.length ≤ 12 by omega), Bool.and_false]
  rw [this]; rfl

/-! ### bounds of what is built of valid items -/
theorem hiTo_le {ds : List D} {b : Int} (h0 : ds ≠ []) (h : ∀ d ∈ ds, d.val ≤ b) (k : Nat) (hk : k ≤ ds.length) : hiTo ds k ≤ b := by
  obtain ⟨d, hd, e⟩ := hiTo_in ds h0 k hk
  rw [← e]; exact h d hd
theorem hiTo_ge {ds : List D} {b : Int} (h0 : ds ≠ []) (h : ∀ d ∈ ds, b ≤ d.val) (k : Nat) (hk : k ≤ ds.length) : b ≤ hiTo ds k := by
  obtain ⟨d, hd, e⟩ := hiTo_in ds h0 k hk
  rw [← e]; exact h d hd
theorem bld_bd {ts : List It} (hv : vItems (-1000) 1000 ts = true) (k : Nat) (hk : k ≤ ts.length) : ∀ d ∈ bld ts k, -1000 ≤ d.val ∧ d.val ≤ 1000 + (k : Int) := by
  have hv2 : goodsT (-1000) 1000 ts ts.length ∧ ts.length ≤ 12 := by unfold vItems at hv; simpa using hv
  induction k with
  | zero => intro d h; cases h
  | succ k ih =>
    have ih := ih (by omega)
    intro d hd
    rw [bld_succ ts k (by omega)] at hd
    rcases List.mem_append.1 hd with h | h
    · have := ih d h; omega
    · simp at h
      subst h
      unfold bldD
      simp only []
      split
      · unfold nxt
        split
        · omega
        · rename_i h0
          have a := hiTo_le h0 (fun d hd => (ih d hd).2) (bld ts k).length (Nat.le_refl _)
          have b := hiTo_ge h0 (fun d hd => (ih d hd).1) (bld ts k).length (Nat.le_refl _)
          have a : hi (bld ts k) ≤ 1000 + (k : Int) := a
          have b : -1000 ≤ hi (bld ts k) := b
          rw [IntKind.wrap_i64]
          omega
      · have := hv2.1 k (by omega) (by omega)
        unfold goodT at this
        simp only [Bool.and_eq_true, decide_eq_true_eq] at this
        omega
theorem bld_name (ts : List It) (k : Nat) (hk : k ≤ ts.length) : ∀ d ∈ bld ts k, ∃ t ∈ ts, t.name = d.name := by
  induction k with
  | zero => intro d h; cases h
  | succ k ih =>
    intro d hd
    rw [bld_succ ts k (by omega)] at hd
    rcases List.mem_append.1 hd with h | h
    · exact ih (by omega) d h
    · simp at h; subst h; exact ⟨ts[k], List.getElem_mem _, rfl⟩
theorem bld_ok {ts : List It} (h : ∀ t ∈ ts, t.ok) (k : Nat) (hk : k ≤ ts.length) : ∀ d ∈ bld ts k, d.ok := by
  induction k with
  | zero => intro d h; cases h
  | succ k ih =>
    intro d hd
    rw [bld_succ ts k (by omega)] at hd
    rcases List.mem_append.1 hd with h1 | h1
    · exact ih (by omega) d h1
    · simp at h1
      subst h1
      have ho := h ts[k] (List.getElem_mem _)
      refine ⟨ho.1, ?_⟩
      unfold bldD
      simp only []
      split
      · unfold nxt
        split
        · omega
        · rw [IntKind.wrap_i64]; omega
      · exact ho.2
end Go.Proofs.YtiebdhbioccogaaGreatDoor

namespace Go.Proofs.YtiebdhbioccogaaGreatDoor
open Go.RowKit Go.Maps
set_option linter.unusedVariables false
set_option maxRecDepth 100000

/-! ### validItems -/
set_option maxHeartbeats 2000000 in
theorem validItems_any (ts : List It) (lo hi : Int) (A : Option Addr) (c n : Nat) (w : World) (hr : ST w w.heap.size A n c ts) {v : Bool} (hv : vItems lo hi ts = v) :
    Calls Tryz.prog 63 #[.slice A n c, .int .i64 lo, .int .i64 hi] w fun e w' => e = .returned (.bool v) ∧ Below w.heap.size w w' := by
  subst hv
  obtain rfl := hr.len
  have hl := hr.max
  have hl2 := hr.cap
  unfold maxLen at hl
  have HR := Lib.hid hr
  clear hr
  go_enter Tryz.func63, Tryz.ntmps63
  go_wp2
  go_loopw [7] (fun i wr => ∃ k : Nat, k ≤ ts.length ∧ i = .int .i64 k ∧ Hid (goodsT lo hi ts k) ∧ Hid (Below w.heap.size w wr)) (fun i _ => ts.length - (intOf i).toNat)
  case atStart => exact ⟨0, Nat.zero_le _, rfl, Lib.hid (goodsT_zero _ _ _), Lib.hid (Below.refl _ _)⟩
  case round =>
    obtain ⟨k, hk, rfl, hok, hbel⟩ := hrel
    by_cases hlt : k < ts.length
    · obtain ⟨b, o, rfl, hb, c1, c2, c3⟩ := (HR.out.below hbel.out).at_ hlt
      have HN := Lib.hid (HR.out.ok _ (List.getElem_mem hlt)).1
      have HG : Hid (goodT lo hi ts k ts[k] = (vName ts[k].name && !(ts[k].auto && ts[k].val != 0) && (decide (lo ≤ ts[k].val) && decide (ts[k].val ≤ hi)) && !(ts.take k).any (isTn ts[k].name))) := Lib.hid rfl
      have hi1 : (k : Int) < (ts.length : Int) := by omega
      have hi0 : (0 : Int) ≤ (k : Int) := by omega
      cases hvn : vName ts[k].name
      · have H1 := Lib.hid hvn
        clear hvn
        go_wp2_with (go_at_call 105; refine (specName_v _ _ HN.out H1.out).mono ?_; rintro e w' ⟨rfl, rfl⟩)
        go_ret
        exact ⟨ret_bool (vItems_bad hlt (by rw [HG.out, H1.out]; rfl)).symm, hbel.out⟩
      · have H1 := Lib.hid hvn
        clear hvn
        cases ht : (ts[k].auto && ts[k].val != 0)
        · have H2 := Lib.hid ht
          cases hrg : (decide (lo ≤ ts[k].val) && decide (ts[k].val ≤ hi))
          · have H3 := Lib.hid hrg
            clear hrg
            cases ha : ts[k].auto
            · rw [ha] at c2
              clear ht ha
              go_wp2_with (first | (go_at_call 105; refine (specName_v _ _ HN.out H1.out).mono ?_; rintro e w' ⟨rfl, rfl⟩) | (go_at_call 30; refine (inRange_v _ _ _ _ H3.out).mono ?_; rintro e w' ⟨rfl, rfl⟩))
              go_ret
              exact ⟨ret_bool (vItems_bad hlt (by rw [HG.out, H1.out, H2.out, H3.out]; rfl)).symm, hbel.out⟩
            · rw [ha] at c2 ht
              simp only [Bool.true_and] at ht
              clear ha
              go_wp2_with (first | (go_at_call 105; refine (specName_v _ _ HN.out H1.out).mono ?_; rintro e w' ⟨rfl, rfl⟩) | (go_at_call 30; refine (inRange_v _ _ _ _ H3.out).mono ?_; rintro e w' ⟨rfl, rfl⟩))
              go_ret
              exact ⟨ret_bool (vItems_bad hlt (by rw [HG.out, H1.out, H2.out, H3.out]; rfl)).symm, hbel.out⟩
          · have H3 := Lib.hid hrg
            clear hrg
            have HLOOP : Hid ((ts[k].auto = false) ∨ (ts[k].auto = true ∧ (ts[k].val != 0) = false)) := Lib.hid (by cases ha : ts[k].auto <;> simp_all)
            clear ht
            rcases HLOOP.out with ha | ⟨ha, ht⟩
            all_goals
              rw [ha] at c2
              clear ha
              go_wp2_with (first | (go_at_call 105; refine (specName_v _ _ HN.out H1.out).mono ?_; rintro e w' ⟨rfl, rfl⟩) | (go_at_call 30; refine (inRange_v _ _ _ _ H3.out).mono ?_; rintro e w' ⟨rfl, rfl⟩))
              clear c2 c3
              go_loopw [8] (fun i wq => ∃ m : Nat, m ≤ k ∧ i = .int .i64 m ∧ Hid ((ts.take m).any (isTn ts[k].name) = false) ∧ Hid (Below w.heap.size w wq)) (fun i _ => k - (intOf i).toNat)
              case atStart => exact ⟨0, Nat.zero_le _, rfl, Lib.hid (by simp), hbel⟩
              case round =>
                obtain ⟨m, hm, rfl, hno, hbq⟩ := hrel
                by_cases hlt2 : m < k
                · have hmt : m < ts.length := by omega
                  obtain ⟨b', o', hA, hb', d1, _, _⟩ := (HR.out.below hbq.out).at_ hmt
                  obtain ⟨b2, o2, hA2, _, d2, _, _⟩ := (HR.out.below hbq.out).at_ hlt
                  injection hA with hA
                  injection hA with q1 q2
                  subst q1 q2
                  injection hA2 with hA2
                  injection hA2 with q1 q2
                  subst q1 q2
                  have hj1 : (m : Int) < (ts.length : Int) := by omega
                  have hj0 : (0 : Int) ≤ (m : Int) := by omega
                  have hj2 : (m : Int) < (k : Int) := by omega
                  have HS := Lib.hid (any_take_succ (isTn ts[k].name) ts m hmt)
                  cases hp : isTn ts[k].name ts[m]
                  · have hp1 : (ts[m].name.toList == ts[k].name.toList) = false := hp
                    have HP := Lib.hid hp
                    clear hp
                    go_wp2
                    go_quiet (fail)
                    go_wp2
                    go_roundw
                    case rel => exact ⟨m + 1, by omega, by go_num, Lib.hid (by rw [HS.out, hno.out, HP.out]; rfl), Lib.hid (below_drewN hbq.out _)⟩
                    case measure => simp [intOf]; omega
                  · have hp1 : (ts[m].name.toList == ts[k].name.toList) = true := hp
                    have HP := Lib.hid (show (ts.take k).any (isTn ts[k].name) = true from List.any_eq_true.2 ⟨ts[m], by rw [List.mem_take_iff_getElem]; exact ⟨m, by omega, rfl⟩, hp⟩)
                    clear hp
                    go_wp2
                    go_quiet (fail)
                    go_wp2
                    go_ret
                    exact ⟨ret_bool (vItems_bad hlt (by rw [HG.out, HP.out]; simp)).symm, below_drewN hbq.out _⟩
                · obtain rfl : m = k := by omega
                  go_wp2
                  go_roundw
                  case rel => exact ⟨m + 1, by omega, by go_num, Lib.hid (goodsT_succ hok.out hlt (by rw [HG.out, H1.out, H2.out, H3.out, hno.out]; rfl)), hbq⟩
                  case measure => simp [intOf]; omega
        · have H2 := Lib.hid ht
          have ha : ts[k].auto = true := by cases ha : ts[k].auto <;> simp_all
          rw [ha] at c2 ht
          simp only [Bool.true_and] at ht
          clear ha
          go_wp2_with (go_at_call 105; refine (specName_v _ _ HN.out H1.out).mono ?_; rintro e w' ⟨rfl, rfl⟩)
          go_ret
          exact ⟨ret_bool (vItems_bad hlt (by rw [HG.out, H1.out, H2.out]; rfl)).symm, hbel.out⟩
    · obtain rfl : k = ts.length := by omega
      have HE := Lib.hid (vItems_end hok.out)
      by_cases h12 : ts.length ≤ 12
      all_goals
        go_wp2
        go_ret
        exact ⟨ret_bool (by rw [HE.out]; simp [h12]; omega), hbel.out⟩

/-! ### the next value -/
theorem hiTo_bds {ds : List D} {b : Int} (hb : 0 ≤ b) (h : ∀ d ∈ ds, -b ≤ d.val ∧ d.val ≤ b) (k : Nat) : hiTo ds k ≤ b ∧ -b ≤ hiTo ds k := by
  have key : ∀ k, -b ≤ valAt ds k ∧ valAt ds k ≤ b := by
    intro k
    unfold valAt
    split
    · rename_i d e; exact h d (List.mem_of_getElem? e)
    · omega
  induction k with
  | zero => have := key 0; show valAt ds 0 ≤ _ ∧ _ ≤ valAt ds 0; omega
  | succ k ih => have := key k; show max (hiTo ds k) (valAt ds k) ≤ _ ∧ _ ≤ max (hiTo ds k) (valAt ds k); omega

def toldOf (a : Bool) (v : Int) : Int := if a then (if v == 0 then 1 else 2) else 0
set_option maxHeartbeats 1000000 in
theorem howTold_any (s : ByteArray) (a : Bool) (v : Int) (w : World) {q : Int} (hq : toldOf a v = q) :
    Calls Tryz.prog 78 #[.agg #[.string s, .bool a, .int .i64 v]] w fun e w' => e = .returned (.int .i64 q) ∧ Below w.heap.size w w' := by
  subst hq
  cases a
  · go_enter Tryz.func78, Tryz.ntmps78
    go_wp2
    go_ret
    exact ⟨rfl, (Below.refl _ _).alloc (Nat.le_refl _) _⟩
  · cases hv : v == 0
    · have HT : Hid (toldOf true v = 2) := Lib.hid (by unfold toldOf; rw [hv]; rfl)
      go_enter Tryz.func78, Tryz.ntmps78
      go_wp2
      go_ret
      exact ⟨by rw [HT.out]; rfl, (Below.refl _ _).alloc (Nat.le_refl _) _⟩
    · have HT : Hid (toldOf true v = 1) := Lib.hid (by unfold toldOf; rw [hv]; rfl)
      go_enter Tryz.func78, Tryz.ntmps78
      go_wp2
      go_ret
      exact ⟨by rw [HT.out]; rfl, (Below.refl _ _).alloc (Nat.le_refl _) _⟩
end Go.Proofs.YtiebdhbioccogaaGreatDoor

namespace Go.Proofs.YtiebdhbioccogaaGreatDoor
open Go.RowKit Go.Maps
set_option linter.unusedVariables false
set_option maxRecDepth 100000

/-- What BuildEnum answers. -/
def BldP (ts : List It) (w : World) (e : Ending) (w' : World) : Prop :=
  ∃ A c, e = .returned (.tuple #[.agg #[.slice A (mBuild ts).length c], .bool (built ts)]) ∧ w'.ownsRow w.heap.size 108 2 (.slice A (mBuild ts).length c) (mBuild ts).length (flat (mBuild ts)) ∧ Below w.heap.size w w'
theorem bldP_no {ts : List It} {w : World} {w' : World} (h : built ts = false) (hb : Below w.heap.size w w') : BldP ts w (.returned (.tuple #[.agg #[.slice none 0 0], .bool false])) w' := by
  have e : mBuild ts = [] := by unfold mBuild; rw [h]; rfl
  unfold BldP
  rw [e, h]
  exact ⟨none, 0, rfl, World.ownsRow_nil _ _ _ _, hb⟩
theorem bldP_yes {ts : List It} {w w' : World} {A : Option Addr} {c : Nat} (h : built ts = true) (ho : w'.ownsRow w.heap.size 108 2 (.slice A ts.length c) ts.length (flat (bld ts ts.length))) (hb : Below w.heap.size w w') : BldP ts w (.returned (.tuple #[.agg #[.slice A ts.length c], .bool true])) w' := by
  have e : mBuild ts = bld ts ts.length := by unfold mBuild; rw [h]; rfl
  unfold BldP
  rw [e, h, bld_len ts _ (Nat.le_refl _)]
  exact ⟨A, c, rfl, ho, hb⟩
theorem frozen_set (w : World) (p q : Addr) (v : Value) : (w.setCell p v).frozen? q = w.frozen? q := by simp [go_sem]
theorem flat_bld (ts : List It) (k : Nat) (h : k < ts.length) : flat (bld ts (k + 1)) = flat (bld ts k) ++ [.string ts[k].name, .int .i64 (bldD (bld ts k) ts[k]).val] := by
  rw [bld_succ ts k h]; simp [flat, encD, bldD]

end Go.Proofs.YtiebdhbioccogaaGreatDoor

