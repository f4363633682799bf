import Derived.Test.YtbkfagncoekbkaaFlagU
import Derived.Test.YtbkfagncoekbkaaBaseC
namespace Go.Proofs.Ytbkfagncoekbkaa
open Go.RowKit Go.Maps
set_option linter.unusedVariables false
set_option maxRecDepth 100000

/-! ### what is built of items, as a class of flags -/
def bldFD (ds : List D) (t : It) : D := ⟨t.name, if t.auto then ((mNb ds : Nat) : Int) else t.val⟩
def bldF (ts : List It) : Nat → List D
  | 0 => []
  | k + 1 => bldF ts k ++ (match ts[k]? with | some t => [bldFD (bldF ts k) t] | none => [])
theorem bldF_succ (ts : List It) (k : Nat) (h : k < ts.length) : bldF ts (k + 1) = bldF ts k ++ [bldFD (bldF ts k) ts[k]] := by
  show bldF ts k ++ _ = _
  rw [List.getElem?_eq_getElem h]
theorem bldF_len (ts : List It) (k : Nat) (h : k ≤ ts.length) : (bldF ts k).length = k := by
  induction k with
  | zero => rfl
  | succ k ih => rw [bldF_succ ts k (by omega), List.length_append, ih (by omega)]; rfl
/-- The values that are told are values of flags. -/
def rngT (ts : List It) (k : Nat) : Prop := ∀ i (h : i < ts.length), i < k → ts[i].auto = false → 0 ≤ ts[i].val ∧ ts[i].val ≤ 4095
theorem bldF_lt {ts : List It} (k : Nat) (hk : k ≤ ts.length) (h : rngT ts k) : ∀ d ∈ bldF ts k, 0 ≤ d.val ∧ d.val < ((2 ^ (12 + k) : Nat) : Int) := by
  induction k with
  | zero => intro d hd; cases hd
  | succ k ih =>
    have ih' := ih (by omega) (fun i hi hik => h i hi (by omega))
    have hp : 2 ^ (12 + (k + 1)) = 2 * 2 ^ (12 + k) := by rw [← Nat.add_assoc, Nat.pow_succ]; omega
    have hp1 : 4096 ≤ 2 ^ (12 + k) := Nat.pow_le_pow_right (n := 2) (i := 12) (by decide) (by omega)
    have hm : mMask (bldF ts k) < 2 ^ (12 + k) := mMask_lt (b := 12 + k) (by intro d hd; have := ih' d hd; exact ⟨this.1, by exact_mod_cast this.2⟩)
    have hl := mNb_le (b := 12 + k) hm
    rw [bldF_succ ts k (by omega), hp]
    generalize 2 ^ (12 + k) = P at *
    intro d hd
    rcases List.mem_append.1 hd with hd | hd
    · have := ih' d hd; omega
    · simp at hd; subst hd
      unfold bldFD
      cases ha : ts[k].auto
      · have := h k (by omega) (by omega) ha
        show 0 ≤ ts[k].val ∧ ts[k].val < ((2 * P : Nat) : Int)
        omega
      · show 0 ≤ ((mNb (bldF ts k) : Nat) : Int) ∧ ((mNb (bldF ts k) : Nat) : Int) < ((2 * P : Nat) : Int)
        omega
theorem bldF_small {ts : List It} (k : Nat) (hk : k ≤ ts.length) (h12 : k ≤ 12) (h : rngT ts k) : Small40 (bldF ts k) := by
  intro d hd
  have h1 := bldF_lt k hk h d hd
  have h2 : 2 ^ (12 + k) ≤ 2 ^ 24 := Nat.pow_le_pow_right (n := 2) (by decide) (by omega)
  have h3 : (2 : Nat) ^ 24 = 16777216 := by decide
  omega
theorem bldF_ok {ts : List It} (h : ∀ t ∈ ts, t.ok) (k : Nat) (hk : k ≤ ts.length) (h12 : k ≤ 12) (hr : rngT ts k) : ∀ d ∈ bldF ts k, d.ok := by
  have hs := bldF_small k hk h12 hr
  have key : ∀ k, k ≤ ts.length → ∀ d ∈ bldF ts k, d.name.size ≤ maxLen := by
    intro k
    induction k with
    | zero => intro _ d hd; cases hd
    | succ k ih =>
      intro hk d hd
      rw [bldF_succ ts k (by omega)] at hd
      rcases List.mem_append.1 hd with hd | hd
      · exact ih (by omega) d hd
      · simp at hd; subst hd
        exact (h _ (List.getElem_mem (show k < ts.length by omega))).1
  intro d hd
  have h1 := hs d hd
  exact ⟨key k hk d hd, by omega, by omega⟩
/-- What stands in a list that is being built of the first k items. -/
def InvB (ts : List It) (k : Nat) (es : List D) : Prop :=
  (∀ i (h : i < ts.length), i < k → ∃ d, es[i]? = some d ∧ d.name = ts[i].name ∧ (ts[i].auto = false → d.val = ts[i].val)) ∧ (rngT ts k → es = bldF ts k)
theorem invB_zero (ts : List It) : InvB ts 0 [] := ⟨fun i h hi => absurd hi (by omega), fun _ => rfl⟩
theorem invB_succ {ts : List It} {k : Nat} {es : List D} {v : Int} (h : InvB ts k es) (hl : es.length = k) (hk : k < ts.length) (hv : ts[k].auto = false → v = ts[k].val) (hn : ts[k].auto = true → rngT ts k → v = ((mNb es : Nat) : Int)) : InvB ts (k + 1) (es ++ [⟨ts[k].name, v⟩]) := by
  refine ⟨fun i hi hik => ?_, fun hr => ?_⟩
  · by_cases e : i = k
    · subst e
      exact ⟨⟨ts[i].name, v⟩, by rw [List.getElem?_append_right (by omega), hl]; simp, rfl, fun ha => hv ha⟩
    · obtain ⟨d, h1, h2⟩ := h.1 i hi (by omega)
      exact ⟨d, by rw [List.getElem?_append_left (by omega)]; exact h1, h2⟩
  · have hr' : rngT ts k := fun i hi hik => hr i hi (by omega)
    have he := h.2 hr'
    rw [bldF_succ ts k hk, ← he]
    congr 1
    unfold bldFD
    cases ha : ts[k].auto
    · rw [hv ha]; rfl
    · rw [hn ha hr']; rfl
def builtF (ts : List It) (b : Int) : Bool := vItems 0 4095 ts && vFlag (bldF ts ts.length) b
def mBldF (ts : List It) (b : Int) : List D := if builtF ts b then bldF ts ts.length else []
def mBldB (ts : List It) (b : Int) : Int := if builtF ts b then b else 0
theorem vItems_of {ts : List It} {es : List D} (hlen : es.length = ts.length) (hI : ∀ i (h : i < ts.length), ∃ d, es[i]? = some d ∧ d.name = ts[i].name ∧ (ts[i].auto = false → d.val = ts[i].val))
    (h1 : onceTo ts ts.length) (h2 : ts.length ≤ 12) (hv : vDefs 0 4095 es = true) : vItems 0 4095 ts = true := by
  unfold vItems
  rw [decide_eq_true h2, Bool.and_true, decide_eq_true_eq]
  intro i hi _
  obtain ⟨d, hd, hn, hval⟩ := hI i hi
  have hie : i < es.length := by omega
  have hdi : es[i] = d := by rw [List.getElem?_eq_getElem hie] at hd; exact Option.some.inj hd
  have hg := vDefs_good hv i hie hie
  rw [hdi] at hg
  unfold goodAt at hg
  simp only [Bool.and_eq_true, decide_eq_true_eq] at hg
  obtain ⟨⟨g1, g2⟩, g3⟩ := hg
  have ho := h1 i hi hi
  unfold goodT
  simp only [Bool.and_eq_true, decide_eq_true_eq, Bool.not_eq_true', ho, and_true]
  refine ⟨⟨by rw [← hn]; exact g1, ?_⟩, ?_⟩
  · cases ha : ts[i].auto
    · rw [hval ha] at g2; exact g2
    · rw [ha] at ho; simp at ho; omega
  · rw [List.any_eq_false]
    intro t ht
    obtain ⟨j, hj, rfl⟩ := List.mem_iff_getElem.1 ht
    have hj' : j < i := by simp at hj; omega
    rw [List.getElem_take]
    intro he
    obtain ⟨d2, hd2, hn2, _⟩ := hI j (by omega)
    have hje : j < (es.take i).length := by simp; omega
    have hjd : (es.take i)[j] = d2 := by
      rw [List.getElem_take]
      rw [List.getElem?_eq_getElem (show j < es.length by omega)] at hd2
      exact Option.some.inj hd2
    rcases fidx_cases (isNm d.name) (es.take i) with ⟨_, hn3⟩ | ⟨m, hm, h3, _⟩
    · have h4 := hn3 j hje hje
      rw [hjd] at h4
      have h5 : isNm d.name d2 = true := by unfold isNm; rw [hn, hn2]; exact he
      rw [h5] at h4; cases h4
    · omega
theorem vItems_rng {ts : List It} (h : vItems 0 4095 ts = true) : rngT ts ts.length := by
  unfold vItems at h
  simp only [Bool.and_eq_true, decide_eq_true_eq] at h
  intro i hi _ _
  have := h.1 i hi hi
  unfold goodT at this
  simp only [Bool.and_eq_true, decide_eq_true_eq] at this
  exact this.1.2
theorem builtF_end {ts : List It} {es : List D} {b : Int} (hlen : es.length = ts.length) (hI : InvB ts ts.length es) (h1 : onceTo ts ts.length) (h2 : ts.length ≤ 12) :
    builtF ts b = vFlag es b ∧ (vFlag es b = true → es = bldF ts ts.length) := by
  cases hv : vFlag es b
  · refine ⟨?_, fun h => by cases h⟩
    unfold builtF
    cases hi : vItems 0 4095 ts
    · rfl
    · rw [← hI.2 (vItems_rng hi), hv]; rfl
  · have hvi := vItems_of hlen (fun i h => hI.1 i h h) h1 h2 (vFlag_defs hv)
    have he := hI.2 (vItems_rng hvi)
    refine ⟨?_, fun _ => he⟩
    unfold builtF; rw [hvi, ← he, hv]; rfl
theorem builtF_not {ts : List It} {b : Int} (h : (∃ i, ∃ hi : i < ts.length, (ts[i].auto && ts[i].val != 0) = true) ∨ 12 < ts.length) : builtF ts b = false := by
  unfold builtF
  have : vItems 0 4095 ts = false := by
    rcases h with ⟨i, hi, h⟩ | h
    · exact vItems_bad hi (by unfold goodT; rw [h]; simp)
    · unfold vItems; rw [decide_eq_false (show ¬ ts.length ≤ 12 by omega), Bool.and_false]
  rw [this]; rfl
theorem vItems_len {ts : List It} (h : vItems 0 4095 ts = true) : ts.length ≤ 12 := by unfold vItems at h; simp only [Bool.and_eq_true, decide_eq_true_eq] at h; exact h.2
theorem mBldF_len (ts : List It) (b : Int) : (mBldF ts b).length ≤ 12 := by
  unfold mBldF
  cases h : builtF ts b
  · exact Nat.zero_le _
  · show (bldF ts ts.length).length ≤ 12
    rw [bldF_len ts _ (Nat.le_refl _)]
    unfold builtF at h; simp only [Bool.and_eq_true] at h
    exact vItems_len h.1
theorem mBldF_ok {ts : List It} {b : Int} (hok : ∀ t ∈ ts, t.ok) : ∀ d ∈ mBldF ts b, d.ok := by
  unfold mBldF
  cases h : builtF ts b
  · intro d hd; cases hd
  · unfold builtF at h; simp only [Bool.and_eq_true] at h
    exact bldF_ok hok _ (Nat.le_refl _) (vItems_len h.1) (vItems_rng h.1)
/-- What is answered. -/
def BldFP (ts : List It) (b : Int) (w : World) (e : Ending) (w' : World) : Prop := FlagR (mBldF ts b) (mBldB ts b) (builtF ts b) w e w'
theorem bldFP_no {ts : List It} {b : Int} {w w' : World} (h : builtF ts b = false) (hb : Below w.heap.size w w') : BldFP ts b w (.returned (.tuple #[.agg #[.slice none 0 0, .int .i64 0], .bool false])) w' := by
  unfold BldFP mBldF mBldB; rw [h]; exact flagR_no hb
theorem bldFP_yes {ts : List It} {b : Int} {es : List D} {w w' : World} {A : Option Addr} {k c : Nat} (h : builtF ts b = true) (he : es = bldF ts ts.length) (hk : es.length = k) (ho : w'.ownsRow w.heap.size 37 2 (.slice A k c) k (flat es)) (hb : Below w.heap.size w w') : BldFP ts b w (.returned (.tuple #[.agg #[.slice A k c, .int .i64 b], .bool true])) w' := by
  unfold BldFP mBldF mBldB; rw [h, if_pos rfl, if_pos rfl, ← he]
  subst hk
  exact ⟨A, c, rfl, ho, hb⟩
/-- The next bit, whatever stands ahead. -/
theorem implNb_u (ds : List D) (A : Option Addr) (n c : Nat) (w : World) (hr : SD w w.heap.size A n c ds) :
    Calls Try.prog 78 #[.slice A n c] w fun e w' => ∃ r : Int, e = .returned (.int .i64 r) ∧ (-9223372036854775808 ≤ r ∧ r ≤ 9223372036854775807) ∧ (Small40 ds → r = ((mNb ds : Nat) : Int)) ∧ Below w.heap.size w w' := by
  by_cases h : Small40 ds
  · refine (implNb_v ds A n c w hr h rfl).mono ?_
    rintro e w' ⟨rfl, hb⟩
    have h1 := mNb_le (b := 40) (mMask_lt (b := 40) h)
    have h3 : (2 : Nat) ^ 40 = 1099511627776 := by decide
    exact ⟨_, rfl, by omega, fun _ => rfl, hb⟩
  · refine (implNb_w ds A n c w hr).mono ?_
    rintro e w' ⟨r, rfl, hr, hb⟩
    exact ⟨r, rfl, hr, fun h2 => absurd h2 h, hb⟩
/-- What a loop that builds keeps. -/
structure KeepB (w0 w : World) (G : Nat) (ts : List It) (k : Nat) (es : List D) (v : Value) : Prop where
  len : es.length = k
  ok : ∀ d ∈ es, d.ok
  inv : InvB ts k es
  own : w.ownsRow G 37 2 v k (flat es)
  bel : Below w0.heap.size w0 w
end Go.Proofs.Ytbkfagncoekbkaa
