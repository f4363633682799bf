/-
Plain functions on names, definitions and lists of them: what the functions of chapter 1 compute. No program in sight.
-/
namespace Go.Proofs.Ytnaojafidhloeaa
/-- A definition: a name with its value. -/
structure D where
  name : ByteArray
  val : Int
/-- A letter from a to z. -/
def okB (c : UInt8) : Bool := decide (97 ≤ c.toNat) && decide (c.toNat ≤ 122)
/-- The first k bytes of s are letters. -/
def okTo (s : ByteArray) (k : Nat) : Bool := (s.data.toList.take k).all okB
/-- A valid name. -/
def vName (s : ByteArray) : Bool := decide (1 ≤ s.size) && decide (s.size ≤ 6) && okTo s s.size

theorem okTo_zero (s : ByteArray) : okTo s 0 = true := by simp [okTo]
theorem okTo_succ (s : ByteArray) (k : Nat) (h : k < s.size) : okTo s (k + 1) = (okTo s k && okB s[k]) := by
  unfold okTo
  rw [List.take_succ_eq_append_getElem (by simpa using h), List.all_append]
  simp
  rfl
theorem okTo_false (s : ByteArray) (k : Nat) (h : okTo s k = false) : okTo s s.size = false := by
  unfold okTo at *
  rw [List.all_eq_false] at *
  obtain ⟨x, hx, hx2⟩ := h
  have := List.mem_of_mem_take hx
  exact ⟨x, by rw [List.take_of_length_le (by simp)]; exact this, hx2⟩
theorem okB_lt (c : UInt8) (h : (c.toNat : Int) < 97) : okB c = false := by unfold okB; simp; omega
theorem okB_gt (c : UInt8) (h : 122 < (c.toNat : Int)) : okB c = false := by unfold okB; simp; omega
theorem okB_in (c : UInt8) (h : 97 ≤ (c.toNat : Int)) (h2 : (c.toNat : Int) ≤ 122) : okB c = true := by unfold okB; simp; omega

/-! ### the first element for which p holds -/
/-- The index of the first element for which p holds, -1 if there is none. -/
def fidx {α : Type} (p : α → Bool) (l : List α) : Int := match l.findIdx? p with
  | some i => (i : Int)
  | none => -1
/-- p holds for none of the first k. -/
def noTo {α : Type} (p : α → Bool) (l : List α) (k : Nat) : Prop := ∀ i (h : i < l.length), i < k → p l[i] = false
theorem noTo_zero {α : Type} (p : α → Bool) (l : List α) : noTo p l 0 := fun i _ h => absurd h (by omega)
theorem noTo_succ {α : Type} {p : α → Bool} {l : List α} {k : Nat} (h : noTo p l k) (hk : k < l.length) (hp : p l[k] = false) : noTo p l (k + 1) := by
  intro i hi hik
  by_cases e : i = k
  · subst e; exact hp
  · exact h i hi (by omega)
theorem fidx_none {α : Type} {p : α → Bool} {l : List α} (h : noTo p l l.length) : fidx p l = -1 := by
  have : l.findIdx? p = none := by
    rw [List.findIdx?_eq_none_iff]
    intro x hx
    obtain ⟨i, hi, rfl⟩ := List.mem_iff_getElem.1 hx
    exact h i hi hi
  unfold fidx; rw [this]
theorem fidx_some {α : Type} {p : α → Bool} {l : List α} {k : Nat} (h : noTo p l k) (hk : k < l.length) (hp : p l[k] = true) : fidx p l = (k : Int) := by
  have : l.findIdx? p = some k := by
    rw [List.findIdx?_eq_some_iff_getElem]
    exact ⟨hk, hp, fun j hj => by simp [h j (by omega) hj]⟩
  unfold fidx; rw [this]
/-- What fidx tells. -/
theorem fidx_cases {α : Type} (p : α → Bool) (l : List α) : (fidx p l = -1 ∧ noTo p l l.length) ∨ ∃ k : Nat, ∃ h : k < l.length, fidx p l = (k : Int) ∧ p l[k] = true ∧ noTo p l k := by
  cases e : l.findIdx? p with
  | none =>
    refine .inl ⟨by unfold fidx; rw [e], ?_⟩
    rw [List.findIdx?_eq_none_iff] at e
    exact fun i hi _ => by simpa using e _ (List.getElem_mem hi)
  | some k =>
    obtain ⟨hk, hp, hn⟩ := List.findIdx?_eq_some_iff_getElem.1 e
    exact .inr ⟨k, hk, by unfold fidx; rw [e], hp, fun j hj hjk => by simpa using hn j hjk⟩
def isNm (s : ByteArray) (d : D) : Bool := d.name.toList == s.toList
def isVal (n : Int) (d : D) : Bool := d.val == n

/-! ### valid definitions -/
/-- The definition at i is good: its name is one, its value is in the range, and no earlier one has its name. -/
def goodAt (lo hi : Int) (ds : List D) (i : Nat) (d : D) : Bool :=
  vName d.name && (decide (lo ≤ d.val) && decide (d.val ≤ hi)) && decide (fidx (isNm d.name) (ds.take i) < 0)
/-- The first k definitions are good. -/
def goodTo (lo hi : Int) (ds : List D) (k : Nat) : Prop := ∀ i (h : i < ds.length), i < k → goodAt lo hi ds i ds[i] = true
instance (lo hi : Int) (ds : List D) (k : Nat) : Decidable (goodTo lo hi ds k) := by unfold goodTo; infer_instance
def vDefs (lo hi : Int) (ds : List D) : Bool := decide (goodTo lo hi ds ds.length) && decide (ds.length ≤ 12)
theorem goodTo_zero (lo hi : Int) (ds : List D) : goodTo lo hi ds 0 := fun i _ h => absurd h (by omega)
theorem goodTo_succ {lo hi : Int} {ds : List D} {k : Nat} (h : goodTo lo hi ds k) (hk : k < ds.length) (hp : goodAt lo hi ds k ds[k] = true) : goodTo lo hi ds (k + 1) := by
  intro i hi hik
  by_cases e : i = k
  · subst e; exact hp
  · exact h i hi (by omega)
theorem vDefs_bad {lo hi : Int} {ds : List D} {k : Nat} (hk : k < ds.length) (hp : goodAt lo hi ds k ds[k] = false) : vDefs lo hi ds = false := by
  unfold vDefs
  rw [decide_eq_false (fun h => by have := h k hk hk; rw [hp] at this; cases this)]
  rfl
theorem vDefs_end {lo hi : Int} {ds : List D} (h : goodTo lo hi ds ds.length) : vDefs lo hi ds = decide (ds.length ≤ 12) := by
  unfold vDefs; rw [decide_eq_true h]; rfl

theorem fidx_any {α : Type} (p : α → Bool) (l : List α) : decide (fidx p l < 0) = !l.any p := by
  rcases fidx_cases p l with ⟨h, hn⟩ | ⟨k, hk, h, hp, hn⟩
  · rw [h]
    have : l.any p = false := by
      rw [List.any_eq_false]
      intro x hx
      obtain ⟨i, hi, rfl⟩ := List.mem_iff_getElem.1 hx
      simp [hn i hi hi]
    rw [this]; rfl
  · rw [h]
    have : l.any p = true := List.any_eq_true.2 ⟨_, List.getElem_mem hk, hp⟩
    rw [this, decide_eq_false (by omega)]; rfl
theorem any_take_succ {α : Type} (p : α → Bool) (l : List α) (k : Nat) (h : k < l.length) : (l.take (k + 1)).any p = ((l.take k).any p || p l[k]) := by
  rw [List.take_succ_eq_append_getElem h, List.any_append]; simp
/-- The names of the first k definitions. -/
def metTo (ds : List D) (k : Nat) (s : ByteArray) : Bool := (ds.take k).any (isNm s)

/-! ### valid enumerations; names and values -/
def vEnum (ds : List D) : Bool := vDefs (-1000) 1000 ds
theorem vEnum_len {ds : List D} (h : vEnum ds = true) : ds.length ≤ 12 := by
  unfold vEnum vDefs at h; simp at h; exact h.2
theorem vEnum_good {ds : List D} (h : vEnum ds = true) : goodTo (-1000) 1000 ds ds.length := by
  unfold vEnum vDefs at h; simp at h; exact h.1
theorem vEnum_val {ds : List D} (h : vEnum ds = true) (d : D) (hd : d ∈ ds) : -1000 ≤ d.val ∧ d.val ≤ 1000 := by
  obtain ⟨i, hi, rfl⟩ := List.mem_iff_getElem.1 hd
  have := vEnum_good h i hi hi
  unfold goodAt at this; simp at this; omega
theorem vEnum_name {ds : List D} (h : vEnum ds = true) (d : D) (hd : d ∈ ds) : vName d.name = true := by
  obtain ⟨i, hi, rfl⟩ := List.mem_iff_getElem.1 hd
  have := vEnum_good h i hi hi
  unfold goodAt at this; simp at this; exact this.1.1
theorem noTo_of_none {α : Type} {p : α → Bool} {l : List α} (h : fidx p l = -1) : noTo p l l.length := by
  rcases fidx_cases p l with ⟨_, hn⟩ | ⟨k, hk, h2, _⟩
  · exact hn
  · omega
/-- The number of members among the first k: definitions that are the first with their value. -/
def memAt (ds : List D) (i : Nat) (d : D) : Bool := !(ds.take i).any (isVal d.val)
def memCnt (ds : List D) : Nat → Nat
  | 0 => 0
  | k + 1 => memCnt ds k + (match ds[k]? with | some d => if memAt ds k d then 1 else 0 | none => 0)
theorem memCnt_succ (ds : List D) (k : Nat) (h : k < ds.length) : memCnt ds (k + 1) = memCnt ds k + if memAt ds k ds[k] then 1 else 0 := by
  show memCnt ds k + _ = _
  rw [List.getElem?_eq_getElem h]
theorem memCnt_le (ds : List D) (k : Nat) : memCnt ds k ≤ k := by
  induction k with
  | zero => exact Nat.le_refl _
  | succ k ih =>
    unfold memCnt
    split
    · split <;> omega
    · omega

theorem fidx_take_succ {α : Type} (p : α → Bool) (l : List α) (k : Nat) (h : k < l.length) :
    fidx p (l.take (k + 1)) = if fidx p (l.take k) < 0 then (if p l[k] then (k : Int) else -1) else fidx p (l.take k) := by
  have e : (l.take (k + 1)).findIdx? p = ((l.take k).findIdx? p).or (if p l[k] then some k else none) := by
    rw [List.take_succ_eq_append_getElem h, List.findIdx?_append]
    congr 1
    have : (l.take k).length = k := by simp; omega
    simp only [List.findIdx?_cons, List.findIdx?_nil]
    split <;> simp [this]
  unfold fidx
  rw [e]
  cases (l.take k).findIdx? p with
  | none => by_cases hp : p l[k] <;> simp [hp]
  | some j => simp; omega
theorem memAt_iff (ds : List D) (k : Nat) (d : D) : memAt ds k d = decide (fidx (isVal d.val) (ds.take k) < 0) := by
  unfold memAt; rw [fidx_any]
theorem step_old (ds : List D) (k : Nat) (h : k < ds.length) (hx : ¬ fidx (isVal ds[k].val) (ds.take k) < 0) : (fun x => fidx (isVal x) (ds.take (k + 1))) = fun x => fidx (isVal x) (ds.take k) := by
  funext x
  rw [fidx_take_succ _ _ _ h]
  by_cases hn : fidx (isVal x) (ds.take k) < 0
  · rw [if_pos hn]
    have : isVal x ds[k] = false := by
      cases e : isVal x ds[k]
      · rfl
      · unfold isVal at e; simp at e; subst e; exact absurd hn hx
    rw [this, if_neg (by simp)]
    rcases fidx_cases (isVal x) (ds.take k) with ⟨h1, _⟩ | ⟨j, _, h1, _⟩ <;> omega
  · rw [if_neg hn]
theorem step_new (ds : List D) (k : Nat) (h : k < ds.length) (hx : fidx (isVal ds[k].val) (ds.take k) < 0) (x : Int) : fidx (isVal x) (ds.take (k + 1)) = if x = ds[k].val then (k : Int) else fidx (isVal x) (ds.take k) := by
  rw [fidx_take_succ _ _ _ h]
  by_cases e : x = ds[k].val
  · subst e
    rw [if_pos hx, if_pos rfl, if_pos (by unfold isVal; simp)]
  · rw [if_neg e]
    have : isVal x ds[k] = false := by unfold isVal; simp; exact fun h => e h.symm
    rw [this]
    by_cases hn : fidx (isVal x) (ds.take k) < 0
    · rw [if_pos hn, if_neg (by simp)]
      rcases fidx_cases (isVal x) (ds.take k) with ⟨h1, _⟩ | ⟨j, _, h1, _⟩ <;> omega
    · rw [if_neg hn]
end Go.Proofs.Ytnaojafidhloeaa
