import Derived.Test.YtbkfagncoekbkaaConvP
import Derived.Test.YtbkfagncoekbkaaReadI
namespace Go.Proofs.Ytbkfagncoekbkaa
open Go.RowKit Go.Maps
set_option linter.unusedVariables false
set_option maxRecDepth 100000

/-! ### plain facts on the laws of ByName and ByValue -/
theorem byV_facts {a b : List D} {s : ByteArray} (h : byVOk a b s = true) :
    ∃ k, ∃ hk : k < a.length, ∃ j, ∃ hj : j < b.length, vEnum a = true ∧ vEnum b = true ∧ fidx (isNm s) a = (k : Int) ∧ fidx (isVal a[k].val) b = (j : Int) ∧ b[j].val = a[k].val ∧ b[j].name = mByV a b s ∧ fidx (isNm b[j].name) b = (j : Int) := by
  have h0 := h
  unfold byVOk at h
  simp only [Bool.and_eq_true, decide_eq_true_eq] at h
  obtain ⟨⟨⟨h1, h2⟩, h3⟩, h4⟩ := h
  rcases fidx_cases (isNm s) a with ⟨h5, _⟩ | ⟨k, hk, h5, _, _⟩
  · omega
  rw [valI_at hk h5] at h4
  rcases fidx_cases (isVal a[k].val) b with ⟨h6, _⟩ | ⟨j, hj, h6, h7, _⟩
  · omega
  refine ⟨k, hk, j, hj, h1, h2, h5, h6, by unfold isVal at h7; simpa using h7, ?_, nm_first h2 j hj⟩
  unfold mByV
  rw [h0, if_pos rfl, valI_at hk h5, nmAt_at hj h6]
theorem byV_back {a b : List D} {r : ByteArray} {j i : Nat} {v : Int} (ha : vEnum a = true) (hb : vEnum b = true) (hj : j < a.length) (hx : fidx (isNm r) a = (j : Int)) (hv : a[j].val = v) (hi : i < b.length) (hf : fidx (isVal v) b = (i : Int)) :
    mByV a b r = b[i].name ∧ byVOk a b r = true := by
  have h1 : byVOk a b r = true := by
    unfold byVOk
    rw [ha, hb, hx, valI_at hj hx, hv, hf, decide_eq_true (by omega), decide_eq_true (by omega)]; rfl
  refine ⟨?_, h1⟩
  unfold mByV
  rw [h1, if_pos rfl, valI_at hj hx, hv, nmAt_at hi hf]
theorem byN_facts {a b : List D} {s : ByteArray} (h : byOk a b s = true) :
    ∃ k, ∃ hk : k < a.length, ∃ j, ∃ hj : j < b.length, ∃ i, ∃ hi : i < b.length, ∃ l, ∃ hl : l < a.length, vEnum a = true ∧ vEnum b = true ∧ fidx (isNm s) a = (k : Int) ∧ fidx (isNm s) b = (j : Int) ∧ fidx (isVal b[j].val) b = (i : Int) ∧ b[i].name = mByN a b s ∧
      mByN a a s = a[l].name ∧ byOk a a s = true ∧ fidx (isNm a[l].name) a = (l : Int) ∧ a[l].val = a[k].val := by
  have h0 := h
  unfold byOk at h
  simp only [Bool.and_eq_true, decide_eq_true_eq] at h
  obtain ⟨⟨⟨h1, h2⟩, h3⟩, h4⟩ := h
  rcases fidx_cases (isNm s) a with ⟨h5, _⟩ | ⟨k, hk, h5, _, _⟩
  · omega
  rcases fidx_cases (isNm s) b with ⟨h6, _⟩ | ⟨j, hj, h6, _, _⟩
  · omega
  obtain ⟨i, hi, hif, hiv, _, _⟩ := first_of (ds := b) j hj
  obtain ⟨l, hl, hlf, hlv, _, _⟩ := first_of (ds := a) k hk
  have h7 : byOk a a s = true := by unfold byOk; rw [h1, h5, decide_eq_true (by omega)]; rfl
  refine ⟨k, hk, j, hj, i, hi, l, hl, h1, h2, h5, h6, hif, ?_, ?_, h7, nm_first h1 l hl, hlv⟩
  · unfold mByN; rw [h0, if_pos rfl, valI_at hj h6, nmAt_at hi hif]
  · unfold mByN; rw [h7, if_pos rfl, valI_at hk h5, nmAt_at hl hlf]
theorem implReads_v (ds es : List D) (A B : Option Addr) (n c m e : Nat) (w : World) (ha : SD w w.heap.size A n c ds) (hb : SD w w.heap.size B m e es) {v : Bool} (hv : mReads ds es = v) :
    Calls Try.prog 64 #[.agg #[.slice A n c], .agg #[.slice B m e]] w fun en w' => en = .returned (.bool v) ∧ Below w.heap.size w w' := hv ▸ implReads_any ds es A B n c m e w ha hb
theorem reads_parts {a b : List D} (h : mReads a b = true) : vEnum a = true ∧ vEnum b = true ∧ ∀ d ∈ a, readV a b d.val = true := by
  unfold mReads at h
  simp only [Bool.and_eq_true, List.all_eq_true] at h
  exact ⟨h.1.1, h.1.2, h.2⟩
theorem readV_parts {a b : List D} {v : Int} (h : readV a b v = true) : ∃ j, ∃ hj : j < b.length, ∃ i, ∃ hi : i < a.length, fidx (isVal v) b = (j : Int) ∧ fidx (isNm b[j].name) a = (i : Int) ∧ a[i].val = v := by
  rcases fidx_cases (isVal v) b with ⟨h1, _⟩ | ⟨j, hj, h1, _, _⟩
  · rw [readV_none (by omega)] at h; cases h
  · rcases fidx_cases (isNm b[j].name) a with ⟨h2, _⟩ | ⟨i, hi, h2, _, _⟩
    · rw [readV_no hj h1 (by omega)] at h; cases h
    · rw [readV_at hj h1 hi h2] at h
      exact ⟨j, hj, i, hi, h1, h2, by simpa using h⟩
theorem old_no {a b : List D} {s : ByteArray} (h : mReads a b = true) (hv : byVOk a b s = false) : vEnum a = true ∧ fidx (isNm s) a < 0 := by
  obtain ⟨h1, h2, h3⟩ := reads_parts h
  refine ⟨h1, ?_⟩
  rcases fidx_cases (isNm s) a with ⟨h5, _⟩ | ⟨k, hk, h5, _, _⟩
  · omega
  · obtain ⟨j, hj, i, hi, h6, _, _⟩ := readV_parts (h3 _ (List.getElem_mem hk))
    have : byVOk a b s = true := by unfold byVOk; rw [h1, h2, h5, valI_at hk h5, h6, decide_eq_true (by omega), decide_eq_true (by omega)]; rfl
    rw [this] at hv; cases hv
theorem old_yes {a b : List D} {s : ByteArray} (h : mReads a b = true) (hv : byVOk a b s = true) : ∃ k, ∃ hk : k < a.length, ∃ i, ∃ hi : i < a.length, vEnum a = true ∧ fidx (isNm s) a = (k : Int) ∧ fidx (isNm (mByV a b s)) a = (i : Int) ∧ a[i].val = a[k].val := by
  obtain ⟨h1, h2, h3⟩ := reads_parts h
  obtain ⟨k, hk, j, hj, _, _, h5, h6, _, h7, _⟩ := byV_facts hv
  obtain ⟨j', hj', i, hi, h8, h9, h10⟩ := readV_parts (h3 _ (List.getElem_mem hk))
  have : j = j' := by omega
  subst this
  exact ⟨k, hk, i, hi, h1, h5, by rw [← h7]; exact h9, h10⟩
theorem valueOf_ex (ds : List D) (s : ByteArray) : ∃ (z : Int) (f : Bool), ∀ (A : Option Addr) (c n : Nat) (w : World), SD w w.heap.size A n c ds → Calls Try.prog 47 #[.agg #[.slice A n c], .string s] w fun e w' => e = .returned (.tuple #[.int .i64 z, .bool f]) ∧ Below w.heap.size w w' := by
  cases hv : vEnum ds
  · exact ⟨0, false, fun A c n w h => implValueOf_no ds s A c n w h hv rfl (.inl rfl)⟩
  · rcases fidx_cases (isNm s) ds with ⟨h1, _⟩ | ⟨k, hk, h1, _, _⟩
    · exact ⟨0, false, fun A c n w h => implValueOf_no ds s A c n w h hv h1 (.inr (by omega))⟩
    · exact ⟨ds[k].val, true, fun A c n w h => implValueOf_yes ds s A c n w h hv k hk h1⟩
end Go.Proofs.Ytbkfagncoekbkaa
