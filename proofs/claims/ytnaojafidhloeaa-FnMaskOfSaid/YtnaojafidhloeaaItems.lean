import Derived.Test.YtnaojafidhloeaaGaps
namespace Go.Proofs.Ytnaojafidhloeaa
open Go.RowKit
set_option linter.unusedVariables false
set_option maxRecDepth 100000

/-! ### items -/
structure It where
  name : ByteArray
  auto : Bool
  val : Int
def encT (t : It) : List Value := [.string t.name, .bool t.auto, .int .i64 t.val]
def It.ok (d : It) : Prop := d.name.size ≤ maxLen ∧ -9223372036854775808 ≤ d.val ∧ d.val ≤ 9223372036854775807
/-- The slice A, n, c holds the items ts, below block B. -/
structure ST (w : World) (B : Nat) (A : Option Addr) (n c : Nat) (ts : List It) : Prop where
  rd : Rd w B 3 encT A ts
  len : ts.length = n
  cap : n ≤ c
  max : c ≤ maxLen
  ok : ∀ t ∈ ts, t.ok
section
variable {w w' : World} {B B' : Nat} {A : Option Addr} {n c : Nat} {ts : List It}
theorem ST.keep (h : ST w B A n c ts) (hk : Rd w B 3 encT A ts → Rd w' B' 3 encT A ts) : ST w' B' A n c ts := ⟨hk h.rd, h.len, h.cap, h.max, h.ok⟩
theorem ST.below (h : ST w B A n c ts) (hb : Below B w w') : ST w' B A n c ts := h.keep fun r => Rd.below r hb
theorem ST.below' {B0 : Nat} (h : ST w B A n c ts) (hb : Below B0 w w') (hB : B ≤ B0) : ST w' B A n c ts := h.keep fun r => Rd.below' r hb hB
theorem ST.more (h : ST w B A n c ts) (hB : B ≤ B') : ST w B' A n c ts := h.keep fun r => Rd.more r hB
theorem ST.drew (h : ST w B A n c ts) : ST w.drew B A n c ts := h.keep fun r => Rd.drew r
theorem ST.drewN (h : ST w B A n c ts) (k : Nat) : ST (w.drewN k) B A n c ts := h.keep fun r => Rd.drewN r k
theorem ST.alloc (h : ST w B A n c ts) (hB : B ≤ w.heap.size) (o : Obj) : ST (w.alloc o) B A n c ts := h.keep fun r => Rd.alloc r hB o
theorem ST.call (h : ST w B A n c ts) (hB : B ≤ w.heap.size) : ST w w.heap.size A n c ts := h.more hB
theorem ST.at_ (h : ST w B A n c ts) {k : Nat} (hk : k < ts.length) :
    ∃ b o, A = some ⟨b, o, none⟩ ∧ b < B ∧ w.cell? ⟨b, o + k * 3, none⟩ = some (.string ts[k].name) ∧ w.cell? ⟨b, o + k * 3 + 1, none⟩ = some (.bool ts[k].auto) ∧ w.cell? ⟨b, o + k * 3 + 2, none⟩ = some (.int .i64 ts[k].val) := by
  obtain ⟨b, o, hA, hb, hc⟩ := Rd.at_ h.rd hk
  exact ⟨b, o, hA, hb, hc 0 _ rfl, hc 1 _ rfl, hc 2 _ rfl⟩
end

/-! ### what is built of items -/
/-- The next value behind ds. -/
def nxt (ds : List D) : Int := if ds = [] then 1 else IntKind.i64.wrap (hi ds + 1)
def bldD (ds : List D) (t : It) : D := ⟨t.name, if t.auto then nxt ds else t.val⟩
/-- The definitions of the first k items. -/
def bld (ts : List It) : Nat → List D
  | 0 => []
  | k + 1 => bld ts k ++ (match ts[k]? with | some t => [bldD (bld ts k) t] | none => [])
theorem bld_succ (ts : List It) (k : Nat) (h : k < ts.length) : bld ts (k + 1) = bld ts k ++ [bldD (bld ts k) ts[k]] := by
  show bld ts k ++ _ = _
  rw [List.getElem?_eq_getElem h]
theorem bld_len (ts : List It) (k : Nat) (h : k ≤ ts.length) : (bld ts k).length = k := by
  induction k with
  | zero => rfl
  | succ k ih => rw [bld_succ ts k (by omega), List.length_append, ih (by omega)]; rfl
theorem bld_take (ts : List It) (k m : Nat) (hkm : k ≤ m) (h : m ≤ ts.length) : (bld ts m).take k = bld ts k := by
  induction m with
  | zero =>
    obtain rfl : k = 0 := by omega
    rfl
  | succ m ih =>
    by_cases e : k = m + 1
    · subst e; rw [List.take_of_length_le (by rw [bld_len ts _ h]; exact Nat.le_refl _)]
    · rw [bld_succ ts m (by omega), List.take_append_of_le_length (by rw [bld_len ts m (by omega)]; omega), ih (by omega) (by omega)]
theorem bld_get (ts : List It) (k m : Nat) (hkm : k < m) (h : m ≤ ts.length) : (bld ts m)[k]? = some (bldD (bld ts k) (ts[k]'(by omega))) := by
  have h1 : ((bld ts m).take (k + 1))[k]? = (bld ts m)[k]? := by rw [List.getElem?_take, if_pos (by omega)]
  rw [← h1, bld_take ts (k + 1) m (by omega) h, bld_succ ts k (by omega), List.getElem?_append_right (by rw [bld_len ts k (by omega)]; exact Nat.le_refl _), bld_len ts k (by omega)]
  simp
/-- The name of an item comes twice among the first k. -/
def isTn (s : ByteArray) (t : It) : Bool := t.name.toList == s.toList
def goodT (lo hi : Int) (ts : List It) (i : Nat) (t : It) : Bool :=
  vName t.name && !(t.auto && t.val != 0) && (decide (lo ≤ t.val) && decide (t.val ≤ hi)) && !(ts.take i).any (isTn t.name)
def goodsT (lo hi : Int) (ts : List It) (k : Nat) : Prop := ∀ i (h : i < ts.length), i < k → goodT lo hi ts i ts[i] = true
instance (lo hi : Int) (ts : List It) (k : Nat) : Decidable (goodsT lo hi ts k) := by unfold goodsT; infer_instance
def vItems (lo hi : Int) (ts : List It) : Bool := decide (goodsT lo hi ts ts.length) && decide (ts.length ≤ 12)
theorem goodsT_zero (lo hi : Int) (ts : List It) : goodsT lo hi ts 0 := fun i _ h => absurd h (by omega)
theorem goodsT_succ {lo hi : Int} {ts : List It} {k : Nat} (h : goodsT lo hi ts k) (hk : k < ts.length) (hp : goodT lo hi ts k ts[k] = true) : goodsT lo hi ts (k + 1) := by
  intro i hi hik
  by_cases e : i = k
  · subst e; exact hp
  · exact h i hi (by omega)
theorem vItems_bad {lo hi : Int} {ts : List It} {k : Nat} (hk : k < ts.length) (hp : goodT lo hi ts k ts[k] = false) : vItems lo hi ts = false := by
  unfold vItems
  rw [decide_eq_false (fun h => by have := h k hk hk; rw [hp] at this; cases this)]
  rfl
theorem vItems_end {lo hi : Int} {ts : List It} (h : goodsT lo hi ts ts.length) : vItems lo hi ts = decide (ts.length ≤ 12) := by
  unfold vItems; rw [decide_eq_true h]; rfl

/-- Whether BuildEnum has an answer. -/
def built (ts : List It) : Bool := vItems (-1000) 1000 ts && vEnum (bld ts ts.length)
def mBuild (ts : List It) : List D := if built ts then bld ts ts.length else []
/-- No item of the first k has both ways of telling its value. -/
def onceTo (ts : List It) (k : Nat) : Prop := ∀ i (h : i < ts.length), i < k → (ts[i].auto && ts[i].val != 0) = false
theorem onceTo_zero (ts : List It) : onceTo ts 0 := fun i _ h => absurd h (by omega)
theorem onceTo_succ {ts : List It} {k : Nat} (h : onceTo ts k) (hk : k < ts.length) (hp : (ts[k].auto && ts[k].val != 0) = false) : onceTo ts (k + 1) := by
  intro i hi hik
  by_cases e : i = k
  · subst e; exact hp
  · exact h i hi (by omega)
/-- What has valid definitions has valid items. -/
theorem built_of {ts : List It} (h1 : onceTo ts ts.length) (h2 : ts.length ≤ 12) : built ts = vEnum (bld ts ts.length) := by
  unfold built
  cases hv : vEnum (bld ts ts.length)
  · simp
  · rw [Bool.and_true]
    unfold vItems
    rw [decide_eq_true h2, Bool.and_true, decide_eq_true_eq]
    intro i hi _
    have hg := vEnum_good hv i (by rw [bld_len _ _ (Nat.le_refl _)]; exact hi) (by rw [bld_len _ _ (Nat.le_refl _)]; exact hi)
    have hget : (bld ts ts.length)[i]'(by rw [bld_len _ _ (Nat.le_refl _)]; exact hi) = bldD (bld ts i) ts[i] := by
      have := bld_get ts i ts.length hi (Nat.le_refl _)
      rw [List.getElem?_eq_getElem (by rw [bld_len _ _ (Nat.le_refl _)]; exact hi)] at this
      exact Option.some.inj this
    rw [hget] at hg
    unfold goodAt at hg
    simp only [Bool.and_eq_true, decide_eq_true_eq] at hg
    obtain ⟨⟨g1, g2⟩, g3⟩ := hg
    rw [bld_take _ _ _ (by omega) (Nat.le_refl _)] at g3
    have ho := h1 i hi hi
    unfold goodT
    simp only [Bool.and_eq_true, decide_eq_true_eq, Bool.not_eq_true', ho, and_true]
    refine ⟨⟨g1, ?_⟩, ?_⟩
    · by_cases ha : ts[i].auto = true
      · rw [ha] at ho
        simp at ho
        omega
      · have : (bldD (bld ts i) ts[i]).val = ts[i].val := by unfold bldD; simp [ha]
        rw [this] at g2; exact g2
    · rw [List.any_eq_false]
      intro t ht
      obtain ⟨j, hj, rfl⟩ := List.mem_iff_getElem.1 ht
      have hj' : j < i := by simp at hj; omega
      rw [List.getElem_take]
      intro he
      have hjb : j < (bld ts i).length := by rw [bld_len _ _ (by omega)]; exact hj'
      rcases fidx_cases (isNm (bldD (bld ts i) ts[i]).name) (bld ts i) with ⟨_, hn⟩ | ⟨m, hm, h1, _⟩
      · have h3 := hn j hjb hjb
        have hget2 : (bld ts i)[j] = bldD (bld ts j) ts[j] := by
          have := bld_get ts j i hj' (by omega)
          rw [List.getElem?_eq_getElem hjb] at this
          exact Option.some.inj this
        rw [hget2] at h3
        have h4 : isNm ts[i].name (bldD (bld ts j) ts[j]) = true := he
        have h5 : isNm (bldD (bld ts i) ts[i]).name (bldD (bld ts j) ts[j]) = true := h4
        rw [h5] at h3; cases h3
      · omega
theorem built_not {ts : List It} (h : (∃ i, ∃ hi : i < ts.length, (ts[i].auto && ts[i].val != 0) = true) ∨ 12 < ts.length) : built ts = false := by
  unfold built
  have : vItems (-1000) 1000 ts = false := by
    rcases h with ⟨i, hi, h⟩ | h
    · exact vItems_bad hi (by unfold goodT; rw [h]; simp)
    · unfold vItems; rw [decide_eq_false (show ¬ ts.length ≤ 12 by omega), Bool.and_false]
  rw [this]; rfl

/-! ### bounds of what is built of valid items -/
theorem hiTo_le {ds : List D} {b : Int} (h0 : ds ≠ []) (h : ∀ d ∈ ds, d.val ≤ b) (k : Nat) (hk : k ≤ ds.length) : hiTo ds k ≤ b := by
  obtain ⟨d, hd, e⟩ := hiTo_in ds h0 k hk
  rw [← e]; exact h d hd
theorem hiTo_ge {ds : List D} {b : Int} (h0 : ds ≠ []) (h : ∀ d ∈ ds, b ≤ d.val) (k : Nat) (hk : k ≤ ds.length) : b ≤ hiTo ds k := by
  obtain ⟨d, hd, e⟩ := hiTo_in ds h0 k hk
  rw [← e]; exact h d hd
theorem bld_bd {ts : List It} (hv : vItems (-1000) 1000 ts = true) (k : Nat) (hk : k ≤ ts.length) : ∀ d ∈ bld ts k, -1000 ≤ d.val ∧ d.val ≤ 1000 + (k : Int) := by
  have hv2 : goodsT (-1000) 1000 ts ts.length ∧ ts.length ≤ 12 := by unfold vItems at hv; simpa using hv
  induction k with
  | zero => intro d h; cases h
  | succ k ih =>
    have ih := ih (by omega)
    intro d hd
    rw [bld_succ ts k (by omega)] at hd
    rcases List.mem_append.1 hd with h | h
    · have := ih d h; omega
    · simp at h
      subst h
      unfold bldD
      simp only []
      split
      · unfold nxt
        split
        · omega
        · rename_i h0
          have a := hiTo_le h0 (fun d hd => (ih d hd).2) (bld ts k).length (Nat.le_refl _)
          have b := hiTo_ge h0 (fun d hd => (ih d hd).1) (bld ts k).length (Nat.le_refl _)
          have a : hi (bld ts k) ≤ 1000 + (k : Int) := a
          have b : -1000 ≤ hi (bld ts k) := b
          rw [IntKind.wrap_i64]
          omega
      · have := hv2.1 k (by omega) (by omega)
        unfold goodT at this
        simp only [Bool.and_eq_true, decide_eq_true_eq] at this
        omega
theorem bld_name (ts : List It) (k : Nat) (hk : k ≤ ts.length) : ∀ d ∈ bld ts k, ∃ t ∈ ts, t.name = d.name := by
  induction k with
  | zero => intro d h; cases h
  | succ k ih =>
    intro d hd
    rw [bld_succ ts k (by omega)] at hd
    rcases List.mem_append.1 hd with h | h
    · exact ih (by omega) d h
    · simp at h; subst h; exact ⟨ts[k], List.getElem_mem _, rfl⟩
theorem bld_ok {ts : List It} (h : ∀ t ∈ ts, t.ok) (k : Nat) (hk : k ≤ ts.length) : ∀ d ∈ bld ts k, d.ok := by
  induction k with
  | zero => intro d h; cases h
  | succ k ih =>
    intro d hd
    rw [bld_succ ts k (by omega)] at hd
    rcases List.mem_append.1 hd with h1 | h1
    · exact ih (by omega) d h1
    · simp at h1
      subst h1
      have ho := h ts[k] (List.getElem_mem _)
      refine ⟨ho.1, ?_⟩
      unfold bldD
      simp only []
      split
      · unfold nxt
        split
        · omega
        · rw [IntKind.wrap_i64]; omega
      · exact ho.2
end Go.Proofs.Ytnaojafidhloeaa
