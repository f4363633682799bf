import Derived.Test.YtnaojafidhloeaaApp
import Derived.Test.YtnaojafidhloeaaZap
import Derived.Maps.AppendAt
namespace Go.Proofs.Ytnaojafidhloeaa
open Go.RowKit
set_option linter.unusedVariables false
set_option maxRecDepth 100000

/-! ### slices of whatever flat elements; parts of slices; appending one to a row of one's own -/
/-- The slice A, n, c holds the elements xs, each of sz cells, below block B. -/
structure SL {α : Type} (enc : α → List Value) (sz : Nat) (w : World) (B : Nat) (A : Option Addr) (n c : Nat) (xs : List α) : Prop where
  rd : Rd w B sz enc A xs
  len : xs.length = n
  cap : n ≤ c
  max : c ≤ maxLen
section
variable {α : Type} {enc : α → List Value} {sz : Nat} {w w' : World} {B B' : Nat} {A : Option Addr} {n c : Nat} {xs : List α}
theorem SL.below (h : SL enc sz w B A n c xs) (hb : Below B w w') : SL enc sz w' B A n c xs := ⟨h.rd.below hb, h.len, h.cap, h.max⟩
theorem SL.below' {B0 : Nat} (h : SL enc sz w B A n c xs) (hb : Below B0 w w') (hB : B ≤ B0) : SL enc sz w' B A n c xs := ⟨h.rd.below' hb hB, h.len, h.cap, h.max⟩
theorem SL.more (h : SL enc sz w B A n c xs) (hB : B ≤ B') : SL enc sz w B' A n c xs := ⟨h.rd.more hB, h.len, h.cap, h.max⟩
theorem SL.none_ : SL enc sz w B none 0 0 [] := ⟨Rd.nil_, rfl, Nat.le_refl _, by unfold maxLen; omega⟩
theorem SL.alloc (h : SL enc sz w B A n c xs) (hB : B ≤ w.heap.size) (o : Obj) : SL enc sz (w.alloc o) B A n c xs := ⟨h.rd.alloc hB o, h.len, h.cap, h.max⟩
theorem SL.drew (h : SL enc sz w B A n c xs) : SL enc sz w.drew B A n c xs := ⟨h.rd.drew, h.len, h.cap, h.max⟩
theorem flat_at (henc : ∀ x, (enc x).length = sz) (xs : List α) (j : Nat) (u : Value) (h : (xs.flatMap enc)[j]? = some u) : ∃ i x r, xs[i]? = some x ∧ (enc x)[r]? = some u ∧ j = i * sz + r := by
  induction xs generalizing j with
  | nil => simp at h
  | cons x r ih =>
    rw [List.flatMap_cons] at h
    by_cases hj : j < sz
    · rw [List.getElem?_append_left (by rw [henc]; exact hj)] at h
      exact ⟨0, x, j, rfl, h, by simp⟩
    · rw [List.getElem?_append_right (by rw [henc]; omega), henc] at h
      obtain ⟨i, y, q, h1, h2, h3⟩ := ih _ h
      exact ⟨i + 1, y, q, by simpa using h1, h2, by rw [Nat.succ_mul]; omega⟩
theorem flat_len (henc : ∀ x, (enc x).length = sz) (xs : List α) : (xs.flatMap enc).length = xs.length * sz := by
  induction xs with
  | nil => simp
  | cons x r ih => rw [List.flatMap_cons, List.length_append, henc, ih, List.length_cons, Nat.succ_mul]; omega
/-- What an append asks of its source. -/
def Src (w : World) (size : Nat) (A : Option Addr) (m : Nat) (news : List Value) : Prop :=
  news.length = m * size ∧ ((A = none ∧ m = 0) ∨ ∃ ad, A = some ad ∧ ∀ j u, news[j]? = some u → w.cell? (ad.add j) = some u)
theorem SL.src (h : SL enc sz w B A n c xs) (henc : ∀ x, (enc x).length = sz) : Src w sz A n (xs.flatMap enc) := by
  refine ⟨by rw [flat_len henc, h.len], ?_⟩
  rcases h.rd with rfl | ⟨b, o, rfl, hb, hc⟩
  · cases A with
    | none => exact .inl ⟨rfl, by simpa using h.len.symm⟩
    | some ad => exact .inr ⟨ad, rfl, by simp⟩
  · refine .inr ⟨_, rfl, fun j u hj => ?_⟩
    obtain ⟨i, x, r, h1, h2, rfl⟩ := flat_at henc xs j u hj
    have := hc i x h1 r u h2
    have adds : ∀ k, (⟨b, o, none⟩ : Addr).add k = ⟨b, o + k, none⟩ := fun k => by unfold Addr.add; split <;> simp_all
    rw [adds, show o + (i * sz + r) = o + i * sz + r by omega]
    exact this
end
theorem SD.sl {w : World} {B n c : Nat} {A : Option Addr} {ds : List D} (h : SD w B A n c ds) : SL encD 2 w B A n c ds := ⟨h.rd, h.len, h.cap, h.max⟩
theorem SD.drop_ {w : World} {B n c : Nat} {A : Option Addr} {ds : List D} (h : SD w B A n c ds) (k : Nat) (hk : k ≤ n) :
    SD w B (if c = k then A else A.map (·.add (k * 2))) (n - k) (c - k) (ds.drop k) := by
  have hl := h.len
  have hcp := h.cap
  refine ⟨?_, by simp; omega, by omega, by have := h.max; omega, fun d hd => h.ok d (List.mem_of_mem_drop hd)⟩
  by_cases hc : c = k
  · have : ds.drop k = [] := List.drop_eq_nil_of_le (by omega)
    rw [this]; exact .inl rfl
  · rw [if_neg hc]
    rcases h.rd with rfl | ⟨b, o, rfl, hb, hcell⟩
    · exact .inl (by simp)
    · refine .inr ⟨b, o + k * 2, ?_, hb, fun i x hi j v hj => ?_⟩
      · show some ((⟨b, o, none⟩ : Addr).add (k * 2)) = _
        congr 1
        unfold Addr.add; split <;> simp_all
      · rw [List.getElem?_drop] at hi
        have := hcell (k + i) x hi j v hj
        rw [show o + (k + i) * 2 + j = o + k * 2 + i * 2 + j by omega] at this
        exact this

theorem run_app_src {P : Program} (w : World) (base : Nat) (t ty e : TypeId) (i : TypeInfo) (z : Value) (size bytes : Nat) (ht : P.underlying t = some (.slice e)) (hi : P.info? e = some i) (hz : i.zero = some z)
    (hsize : i.size = size) (hby : i.bytes = bytes) (hzs : z.cells.size = size) (hsz : 0 < size) (v : Value) (n : Nat) (xs : List Value) (hown : w.ownsRow base e size v n xs)
    (A : Option Addr) (m c : Nat) (news : List Value) (hs : Src w size A m news) (h1 : ∀ u ∈ news, u.oneCell' = true) (h63 : n + m ≤ maxLen) (hbytes : (n + m) * bytes ≤ 140737488355328) (hbase : base ≤ w.heap.size) :
    ∃ v' w', (Builtin.append_ #[t, t] ty #[v, .slice A m c]).run P w = .ok v' w' ∧ w'.ownsRow base e size v' (n + m) (xs ++ news) ∧ w.grownBy w' v.ownBlock := by
  rcases hs.2 with ⟨rfl, rfl⟩ | ⟨ad, rfl, hc⟩
  · have hn : news = [] := List.eq_nil_of_length_eq_zero (by simpa using hs.1)
    subst hn
    refine ⟨v, w, ?_, by simpa using hown, World.grownBy.refl _ _⟩
    rcases hown.2 with ⟨rfl, rfl⟩ | ⟨g, cap, cur, rfl, _, _, hcap, _⟩
    · simp [Builtin.append_, run_underlying ht, sizeOf, typeInfo, hi, Builtin.lenOf, Builtin.firstCells]
    · simp [Builtin.append_, run_underlying ht, sizeOf, typeInfo, hi, Builtin.lenOf, Builtin.firstCells, storeCells, hcap]
  · obtain ⟨v', w', hrun, h2, h3, _⟩ := run_append_own_at (P := P) w base t ty e i z size bytes ht hi hz hsize hby hzs hsz v n xs hown ad m c news hs.1 hc h1 h63 hbytes hbase
    exact ⟨v', w', hrun, h2, h3⟩

theorem wpList_app_src {P : Program} {W : World} {ops : Array Oper} {rest : List Oper} {o : Oper} {a : Act} {Q : Exit → Act → World → Prop} (hgd : o.guard = none) (s x : Operand) (t : TypeId)
    (ho : o.op = .call { callee := .builtin .append, args := #[s, x], argTypes := #[t, t] })
    (base : Nat) (e : TypeId) (i : TypeInfo) (z : Value) (size bytes : Nat) (ht : P.underlying t = some (.slice e)) (hi : P.info? e = some i ∧ i.zero = some z ∧ i.size = size ∧ i.bytes = bytes)
    (hzs : z.cells.size = size) (hsz : 0 < size) (hby : bytes ≤ 48)
    (v : Value) (n : Nat) (xs : List Value) (hs : a.eval s = v) (hown : W.ownsRow base e size v n xs)
    (A : Option Addr) (m c : Nat) (news : List Value) (hx : a.eval x = .slice A m c) (hsrc : Src W size A m news) (h1 : ∀ u ∈ news, u.oneCell' = true) (hn : n + m ≤ 2000000) (hbase : base ≤ W.heap.size)
    (h : ∀ v' w', w'.ownsRow base e size v' (n + m) (xs ++ news) → W.grownBy w' v.ownBlock → wpList P ops Q rest (a.put o.dst v') w') :
    wpList P ops Q (o :: rest) a W := by
  obtain ⟨v', w', hr, h2, h3⟩ := run_app_src (P := P) W base t o.type e i z size bytes ht hi.1 hi.2.1 hi.2.2.1 hi.2.2.2 hzs hsz v n xs hown A m c news hsrc h1 (by unfold maxLen; omega) (by have : (n + m) * bytes ≤ 2000000 * 48 := Nat.mul_le_mul hn hby; omega) hbase
  exact Lib.wpList_append_run W hgd s x t t ho v _ hs hx v' w' hr (h v' w' h2 h3)

/-- An owned row of which nothing counts any more. -/
theorem own_cut0 {w : World} {base m c sz : Nat} {e : TypeId} {A : Option Addr} {xs : List Value} (h : w.ownsRow base e sz (.slice A m c) m xs) (hm : 0 < m) : w.ownsRow base e sz (.slice A 0 c) 0 [] := by
  refine ⟨by simp, .inr ?_⟩
  rcases h.2 with ⟨_, h0⟩ | ⟨g, cap, cur, h1, hb, hg, hc, hcm, hcs, ht⟩
  · omega
  · injection h1 with e1 e2 e3
    subst e1 e3
    exact ⟨g, c, cur, rfl, hb, hg, Nat.zero_le _, hcm, hcs, by simp⟩

/-- A part: a slice and what it holds. -/
structure Part (α : Type) where
  A : Option Addr
  n : Nat
  c : Nat
  xs : List α
def encP {α : Type} (p : Part α) : List Value := [.slice p.A p.n p.c]
def cat {α : Type} (ps : List (Part α)) : List α := ps.flatMap Part.xs
theorem cat_snoc {α : Type} (ps : List (Part α)) (k : Nat) (h : k < ps.length) : cat (ps.take (k + 1)) = cat (ps.take k) ++ ps[k].xs := by
  unfold cat
  rw [List.take_succ_eq_append_getElem h, List.flatMap_append]; simp
theorem cat_le {α : Type} (ps : List (Part α)) (k : Nat) : (cat (ps.take k)).length ≤ (cat ps).length := by
  have : cat ps = cat (ps.take k) ++ cat (ps.drop k) := by unfold cat; rw [← List.flatMap_append, List.take_append_drop]
  rw [this, List.length_append]; omega
theorem part1 {α : Type} {w : World} {B g : Nat} {p0 : Part α} (h0 : w.cell? ⟨g, 0, none⟩ = some (.slice p0.A p0.n p0.c)) (hg : g < B) : Rd w B 1 encP (some ⟨g, 0, none⟩) [p0] := by
  refine .inr ⟨g, 0, rfl, hg, fun i x hi j v hj => ?_⟩
  match i, hi with
  | 0, hi => simp at hi; subst hi; match j, hj with | 0, hj => simp [encP] at hj; subst hj; exact h0
  | i + 1, hi => simp at hi
theorem part2 {α : Type} {w : World} {B g : Nat} {p0 p1 : Part α} (h0 : w.cell? ⟨g, 0, none⟩ = some (.slice p0.A p0.n p0.c)) (h1 : w.cell? ⟨g, 1, none⟩ = some (.slice p1.A p1.n p1.c)) (hg : g < B) : Rd w B 1 encP (some ⟨g, 0, none⟩) [p0, p1] := by
  refine .inr ⟨g, 0, rfl, hg, fun i x hi j v hj => ?_⟩
  match i, hi with
  | 0, hi => simp at hi; subst hi; match j, hj with | 0, hj => simp [encP] at hj; subst hj; exact h0
  | 1, hi => simp at hi; subst hi; match j, hj with | 0, hj => simp [encP] at hj; subst hj; exact h1
  | i + 2, hi => simp at hi
theorem part3 {α : Type} {w : World} {B g : Nat} {p0 p1 p2 : Part α} (h0 : w.cell? ⟨g, 0, none⟩ = some (.slice p0.A p0.n p0.c)) (h1 : w.cell? ⟨g, 1, none⟩ = some (.slice p1.A p1.n p1.c)) (h2 : w.cell? ⟨g, 2, none⟩ = some (.slice p2.A p2.n p2.c)) (hg : g < B) : Rd w B 1 encP (some ⟨g, 0, none⟩) [p0, p1, p2] := by
  refine .inr ⟨g, 0, rfl, hg, fun i x hi j v hj => ?_⟩
  match i, hi with
  | 0, hi => simp at hi; subst hi; match j, hj with | 0, hj => simp [encP] at hj; subst hj; exact h0
  | 1, hi => simp at hi; subst hi; match j, hj with | 0, hj => simp [encP] at hj; subst hj; exact h1
  | 2, hi => simp at hi; subst hi; match j, hj with | 0, hj => simp [encP] at hj; subst hj; exact h2
  | i + 3, hi => simp at hi
/-- A slice of one definition that was made on the spot. -/
theorem sd_one {w : World} {B g : Nat} {d : D} (h0 : w.cell? ⟨g, 0, none⟩ = some (.string d.name)) (h1 : w.cell? ⟨g, 1, none⟩ = some (.int .i64 d.val)) (hg : g < B) (hd : d.ok) : SD w B (some ⟨g, 0, none⟩) 1 1 [d] := by
  refine ⟨.inr ⟨g, 0, rfl, hg, fun i x hi j v hj => ?_⟩, rfl, Nat.le_refl _, by unfold maxLen; omega, by simpa using hd⟩
  match i, hi with
  | 0, hi =>
    simp at hi; subst hi
    match j, hj with
    | 0, hj => simp [encD] at hj; subst hj; exact h0
    | 1, hj => simp [encD] at hj; subst hj; exact h1
    | j + 2, hj => simp [encD] at hj
  | i + 1, hi => simp at hi
end Go.Proofs.Ytnaojafidhloeaa
