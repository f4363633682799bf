import Derived.Test.YtpmanbmhbfnefaaBaseB
import Derived.Test.YtpmanbmhbfnefaaBaseE
import Derived.Test.YtpmanbmhbfnefaaCel
namespace Go.Proofs.Ytpmanbmhbfnefaa
open Go.RowKit Go.Maps
set_option linter.unusedVariables false
set_option maxRecDepth 100000

/-! ### missed members: plain facts -/
def valI (ds : List D) (s : ByteArray) : Int := ds[(fidx (isNm s) ds).toNat]?.elim 0 (·.val)
def metV (ds : List D) (ss : List ByteArray) (v : Int) : Bool := ss.any fun s => decide (valI ds s = v)
def mMissOk (ds : List D) (ss : List ByteArray) : Bool := vEnum ds && allN ds ss
def missD (ds : List D) (ss : List ByteArray) (k : Nat) : List D := ((mems ds).take k).filter fun d => !metV ds ss d.val
def mMissM (ds : List D) (ss : List ByteArray) : List ByteArray := if mMissOk ds ss then (missD ds ss (mems ds).length).map (·.name) else []
theorem valI_at {ds : List D} {s : ByteArray} {j : Nat} (hj : j < ds.length) (h : fidx (isNm s) ds = j) : valI ds s = ds[j].val := by
  unfold valI; rw [h, Int.toNat_natCast, List.getElem?_eq_getElem hj]; rfl
theorem metV_snoc (ds : List D) (ss : List ByteArray) (k : Nat) (h : k < ss.length) (v : Int) : metV ds (ss.take (k + 1)) v = (metV ds (ss.take k) v || decide (valI ds ss[k] = v)) := by
  unfold metV; rw [List.take_succ_eq_append_getElem h, List.any_append]; simp
theorem missD_succ (ds : List D) (ss : List ByteArray) (k : Nat) (h : k < (mems ds).length) : missD ds ss (k + 1) = missD ds ss k ++ if metV ds ss (mems ds)[k].val then [] else [(mems ds)[k]] := by
  unfold missD
  rw [List.take_succ_eq_append_getElem h, List.filter_append, List.filter_cons, List.filter_nil]
  cases metV ds ss (mems ds)[k].val <;> rfl
theorem missD_len (ds : List D) (ss : List ByteArray) (k : Nat) : (missD ds ss k).length ≤ k := by
  unfold missD
  have := List.length_filter_le (fun d => !metV ds ss d.val) ((mems ds).take k)
  have h2 : ((mems ds).take k).length ≤ k := by simp; omega
  omega
theorem mems_12 {ds : List D} (hv : vEnum ds = true) : (mems ds).length ≤ 12 := by
  have h1 := memTo_len ds ds.length
  have h2 := memCnt_le ds ds.length
  have h3 := vEnum_len hv
  unfold mems; omega
theorem mMissM_len (ds : List D) (ss : List ByteArray) : (mMissM ds ss).length ≤ 12 := by
  unfold mMissM
  cases h : mMissOk ds ss
  · exact Nat.zero_le _
  · have hv : vEnum ds = true := by unfold mMissOk at h; simp only [Bool.and_eq_true] at h; exact h.1
    have := missD_len ds ss (mems ds).length
    have := mems_12 hv
    show ((missD ds ss (mems ds).length).map _).length ≤ 12
    rw [List.length_map]; omega
theorem mMissM_ok {ds : List D} {ss : List ByteArray} (h : ∀ d ∈ ds, d.ok) : ∀ s ∈ mMissM ds ss, s.size ≤ maxLen := by
  intro s hs
  unfold mMissM at hs
  cases hv : mMissOk ds ss
  · rw [hv] at hs; cases hs
  · rw [hv] at hs
    obtain ⟨d, hd, rfl⟩ := List.mem_map.1 hs
    exact (mems_ok h d (List.mem_of_mem_take (List.mem_filter.1 hd).1)).1
/-- Members have different values. -/
theorem mems_apart (ds : List D) : (mems ds).Pairwise fun a b => a.val ≠ b.val := by
  have key : ∀ k, k ≤ ds.length → (memTo ds k).Pairwise fun a b => a.val ≠ b.val := by
    intro k
    induction k with
    | zero => intro _; exact List.Pairwise.nil
    | succ k ih =>
      intro hk
      rw [memTo_succ ds k (by omega)]
      by_cases hm : memAt ds k ds[k] = true
      · rw [if_pos hm, List.pairwise_append]
        refine ⟨ih (by omega), List.pairwise_singleton _ _, fun a ha b hb => ?_⟩
        simp at hb; subst hb
        obtain ⟨i, hi, hik, rfl, _⟩ := memTo_mem ds k (by omega) a ha
        intro e
        unfold memAt at hm
        simp only [Bool.not_eq_true', List.any_eq_false] at hm
        have hin : ds[i] ∈ ds.take k := by
          rw [List.mem_iff_getElem]
          exact ⟨i, by simp; omega, by simp⟩
        have := hm _ hin
        unfold isVal at this
        simp at this
        exact this e
      · rw [if_neg hm, List.append_nil]; exact ih (by omega)
  exact key ds.length (Nat.le_refl _)
theorem rank_iff {ds : List D} {j : Nat} (hj : j < (mems ds).length) (v : Int) : fidx (isVal v) (mems ds) = (j : Int) ↔ v = (mems ds)[j].val := by
  have hp := List.pairwise_iff_getElem.1 (mems_apart ds)
  rcases fidx_cases (isVal v) (mems ds) with ⟨h1, hn⟩ | ⟨r, hr, h1, hx, hn⟩
  · have := hn j hj hj
    unfold isVal at this
    simp at this
    constructor
    · intro h; omega
    · intro h; exact absurd h.symm this
  · have e : (mems ds)[r].val = v := by unfold isVal at hx; simpa using hx
    rw [h1]
    constructor
    · intro h
      have : r = j := by omega
      subst this; exact e.symm
    · intro h
      rcases Nat.lt_trichotomy r j with h2 | h2 | h2
      · exact absurd (by rw [e]; exact h) (hp r j hr hj h2)
      · rw [h2]
      · exact absurd (by rw [e]; exact h.symm) (hp j r hj hr h2)
/-- What is met, by ranks. -/
def metR (ds : List D) (ss : List ByteArray) (j : Nat) : Bool := ss.any fun s => decide (fidx (isVal (valI ds s)) (mems ds) = (j : Int))
theorem metR_snoc (ds : List D) (ss : List ByteArray) (k : Nat) (h : k < ss.length) (j : Nat) : metR ds (ss.take (k + 1)) j = (metR ds (ss.take k) j || decide (fidx (isVal (valI ds ss[k])) (mems ds) = (j : Int))) := by
  unfold metR; rw [List.take_succ_eq_append_getElem h, List.any_append]; simp
theorem metR_is {ds : List D} (ss : List ByteArray) {j : Nat} (hj : j < (mems ds).length) : metR ds ss j = metV ds ss (mems ds)[j].val := by
  unfold metR metV
  congr 1
  funext s
  rw [decide_eq_decide]
  exact rank_iff hj _
/-- Twelve bools in a block. -/
structure BC (w : World) (g : Nat) (F : Nat → Bool) : Prop where
  c : ∀ j, j < 12 → w.cell? ⟨g, j, none⟩ = some (.bool (F j))
  f : ∀ j, j < 12 → w.frozen? ⟨g, j, none⟩ = false
section
variable {w w' : World} {g : Nat} {F : Nat → Bool}
theorem BC.lt (h : BC w g F) : g < w.heap.size := World.block_lt_of_cell? _ _ (h.c 0 (by decide))
theorem BC.below (h : BC w g F) (hb : Below w.heap.size w w') : BC w' g F :=
  ⟨fun j hj => keep1 hb (h.c j hj), fun j hj => (hb.frozen (p := ⟨g, j, none⟩) h.lt).trans (h.f j hj)⟩
theorem BC.low {B : Nat} (h : BC w g F) (hb : Below B w w') (hg : g < B) : BC w' g F :=
  ⟨fun j hj => (hb.cell (p := ⟨g, j, none⟩) hg).trans (h.c j hj), fun j hj => (hb.frozen (p := ⟨g, j, none⟩) hg).trans (h.f j hj)⟩
theorem BC.set (h : BC w g F) {i : Nat} (hi : i < 12) {G : Nat → Bool} (hG : ∀ j, j < 12 → G j = if j = i then true else F j) : BC (w.setCell ⟨g, i, none⟩ (.bool true)) g G := by
  refine ⟨fun j hj => ?_, fun j hj => by rw [fro_set]; exact h.f j hj⟩
  rw [hG j hj]
  by_cases e : j = i
  · subst e; rw [if_pos rfl]; exact World.cell?_setCell_same' _ _ _ (by rw [h.c j hj]; rfl)
  · rw [if_neg e]; exact (World.cell?_setCell_other w _ _ _ (fun e => by injection e with _ e2; first | omega | exact absurd e2 (by omega))).trans (h.c j hj)
theorem BC.ext (h : BC w g F) {G : Nat → Bool} (hG : ∀ j, j < 12 → G j = F j) : BC w g G := ⟨fun j hj => by rw [hG j hj]; exact h.c j hj, h.f⟩
end
end Go.Proofs.Ytpmanbmhbfnefaa
