import Derived.Test.YteaiaglangmhbaaDoorPure2
namespace Go.Proofs.YteaiaglangmhbaaDoor
open Go.RowKit
set_option linter.unusedVariables false
set_option maxRecDepth 100000

/-! ### definitions by their values -/
/-- How many of the first have at most the value x. -/
def pos (x : Int) : List D → Nat
  | [] => 0
  | d :: r => if d.val ≤ x then pos x r + 1 else 0
theorem pos_le (x : Int) (l : List D) : pos x l ≤ l.length := by
  induction l with
  | nil => exact Nat.le_refl _
  | cons d r ih => unfold pos; split <;> simp <;> omega
theorem pos_ge {x : Int} {l : List D} {k : Nat} (hk : k ≤ l.length) (h : ∀ i (hi : i < l.length), i < k → l[i].val ≤ x) : k ≤ pos x l := by
  induction l generalizing k with
  | nil => simp at hk; subst hk; exact Nat.zero_le _
  | cons d r ih =>
    cases k with
    | zero => exact Nat.zero_le _
    | succ k =>
      have h0 := h 0 (by simp) (by omega)
      simp at h0
      unfold pos
      rw [if_pos h0]
      have := ih (k := k) (by simpa using hk) (fun i hi hik => by have := h (i + 1) (by simpa using hi) (by omega); simpa using this)
      omega
theorem pos_at {x : Int} {l : List D} {k : Nat} (hk : k < l.length) (h : x < l[k].val) : pos x l ≤ k := by
  induction l generalizing k with
  | nil => simp at hk
  | cons d r ih =>
    unfold pos
    split
    · rename_i hd
      cases k with
      | zero => simp at h; omega
      | succ k => have := ih (k := k) (by simpa using hk) (by simpa using h); omega
    · exact Nat.zero_le _
def sortedV (l : List D) : Prop := l.Pairwise fun a b => a.val ≤ b.val
/-- l with d behind all that have at most its value. -/
def insV (l : List D) (d : D) : List D := l.take (pos d.val l) ++ (d :: l.drop (pos d.val l))
theorem insV_length (l : List D) (d : D) : (insV l d).length = l.length + 1 := by
  have := pos_le d.val l
  simp [insV]; omega
theorem insV_mem {l : List D} {d x : D} : x ∈ insV l d ↔ x = d ∨ x ∈ l := by
  have : x ∈ l ↔ x ∈ l.take (pos d.val l) ∨ x ∈ l.drop (pos d.val l) := by rw [← List.mem_append, List.take_append_drop]
  rw [this]
  simp only [insV, List.mem_append, List.mem_cons]
  constructor
  · rintro (h | h | h)
    · exact .inr (.inl h)
    · exact .inl h
    · exact .inr (.inr h)
  · rintro (h | h | h)
    · exact .inr (.inl h)
    · exact .inl h
    · exact .inr (.inr h)
theorem pos_split (x : Int) (l : List D) : (∀ a ∈ l.take (pos x l), a.val ≤ x) ∧ (sortedV l → ∀ b ∈ l.drop (pos x l), x < b.val) := by
  induction l with
  | nil => simp [pos]
  | cons d r ih =>
    unfold pos
    split
    · rename_i hd
      refine ⟨fun a ha => ?_, fun hs b hb => ?_⟩
      · simp only [List.take_succ_cons, List.mem_cons] at ha
        rcases ha with rfl | ha
        · exact hd
        · exact ih.1 a ha
      · simp only [List.drop_succ_cons] at hb
        exact ih.2 (List.pairwise_cons.1 hs).2 b hb
    · rename_i hd
      refine ⟨fun a ha => by simp at ha, fun hs b hb => ?_⟩
      simp only [List.drop_zero, List.mem_cons] at hb
      rcases hb with rfl | hb
      · omega
      · have := (List.pairwise_cons.1 hs).1 b hb; omega
theorem insV_sorted {l : List D} (d : D) (h : sortedV l) : sortedV (insV l d) := by
  have hp := pos_split d.val l
  have h2 := hp.2 h
  unfold sortedV insV at *
  have h3 : (l.take (pos d.val l) ++ l.drop (pos d.val l)).Pairwise fun a b => a.val ≤ b.val := by rw [List.take_append_drop]; exact h
  rw [List.pairwise_append] at h3 ⊢
  refine ⟨h3.1, List.pairwise_cons.2 ⟨fun b hb => by have := h2 b hb; omega, h3.2.1⟩, fun a ha b hb => ?_⟩
  rcases List.mem_cons.1 hb with rfl | hb
  · exact hp.1 a ha
  · exact h3.2.2 a ha b hb
def srt (ds : List D) : List D := ds.foldl insV []
theorem srt_take (ds : List D) (k : Nat) (h : k < ds.length) : srt (ds.take (k + 1)) = insV (srt (ds.take k)) ds[k] := by
  unfold srt
  rw [List.take_succ_eq_append_getElem h, List.foldl_append]; rfl
theorem srt_length (ds : List D) : (srt ds).length = ds.length := by
  have : ∀ (l acc : List D), (l.foldl insV acc).length = acc.length + l.length := by
    intro l
    induction l with
    | nil => intro acc; rfl
    | cons d r ih => intro acc; rw [List.foldl_cons, ih, insV_length]; simp; omega
  simpa [srt] using this ds []
theorem srt_mem {ds : List D} {x : D} : x ∈ srt ds ↔ x ∈ ds := by
  have : ∀ (l acc : List D), x ∈ l.foldl insV acc ↔ x ∈ acc ∨ x ∈ l := by
    intro l
    induction l with
    | nil => intro acc; simp
    | cons d r ih =>
      intro acc
      rw [List.foldl_cons, ih, insV_mem, List.mem_cons]
      constructor
      · rintro ((h | h) | h)
        · exact .inr (.inl h)
        · exact .inl h
        · exact .inr (.inr h)
      · rintro (h | h | h)
        · exact .inl (.inr h)
        · exact .inl (.inl h)
        · exact .inr h
  simpa [srt] using this ds []
theorem srt_sorted (ds : List D) : sortedV (srt ds) := by
  have : ∀ (l acc : List D), sortedV acc → sortedV (l.foldl insV acc) := by
    intro l
    induction l with
    | nil => intro acc h; exact h
    | cons d r ih => intro acc h; exact ih _ (insV_sorted d h)
  exact this ds [] List.Pairwise.nil
end Go.Proofs.YteaiaglangmhbaaDoor
