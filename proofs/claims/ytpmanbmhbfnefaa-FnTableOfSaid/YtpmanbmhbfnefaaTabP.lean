import Derived.Test.YtpmanbmhbfnefaaConvP
import Derived.Test.YtpmanbmhbfnefaaConvL
namespace Go.Proofs.Ytpmanbmhbfnefaa
set_option linter.unusedVariables false

/-! ### tables of the members: no program in sight -/
/-- The rank of the member that a name has. -/
def rkN (ds : List D) (s : ByteArray) : Nat := (fidx (isVal (valI ds s)) (mems ds)).toNat
/-- One of the first k has this rank. -/
def hit (ds L : List D) (k r : Nat) : Bool := (L.take k).any fun d => decide (rkN ds d.name = r)
def numF (ds L : List D) : Nat → Nat → Int
  | 0, _ => 0
  | k + 1, r => match L[k]? with
    | some d => if rkN ds d.name = r then d.val else numF ds L k r
    | none => numF ds L k r
theorem hit_zero (ds L : List D) (r : Nat) : hit ds L 0 r = false := rfl
theorem hit_succ {ds L : List D} {k : Nat} (hk : k < L.length) (r : Nat) : hit ds L (k + 1) r = (hit ds L k r || decide (rkN ds L[k].name = r)) := by
  unfold hit
  exact any_take_succ _ _ _ hk
theorem numF_succ {ds L : List D} {k : Nat} (hk : k < L.length) (r : Nat) : numF ds L (k + 1) r = if rkN ds L[k].name = r then L[k].val else numF ds L k r := by
  rw [numF, List.getElem?_eq_getElem hk]
theorem range_set {α : Type} {q a : Nat} (f g : Nat → α) (h : ∀ r, g r = if a = r then g a else f r) : ((List.range q).map f).set a (g a) = (List.range q).map g := by
  apply List.ext_getElem
  · simp
  · intro i h1 h2
    rw [List.getElem_set, List.getElem_map, List.getElem_map, List.getElem_range]
    rw [h i]
def numL (ds L : List D) (q k : Nat) : List Int := (List.range q).map (numF ds L k)
theorem numL_len (ds L : List D) (q k : Nat) : (numL ds L q k).length = q := by unfold numL; simp
theorem numL_succ {ds L : List D} {q k : Nat} (hk : k < L.length) : (numL ds L q k).set (rkN ds L[k].name) L[k].val = numL ds L q (k + 1) := by
  have h := range_set (q := q) (a := rkN ds L[k].name) (numF ds L k) (numF ds L (k + 1)) (fun r => by rw [numF_succ hk, numF_succ hk, if_pos rfl])
  rw [numF_succ hk, if_pos rfl] at h
  exact h
def metT (ds L : List D) (q k : Nat) : List Bool := (List.range q).map (hit ds L k)
theorem metT_succ {ds L : List D} {q k : Nat} (hk : k < L.length) : (metT ds L q k).set (rkN ds L[k].name) true = metT ds L q (k + 1) := by
  have h := range_set (q := q) (a := rkN ds L[k].name) (hit ds L k) (hit ds L (k + 1)) (fun r => by
    rw [hit_succ hk, hit_succ hk]
    by_cases e : rkN ds L[k].name = r
    · rw [if_pos e, decide_eq_true e, decide_eq_true rfl, Bool.or_true, Bool.or_true]
    · rw [if_neg e, decide_eq_false e, Bool.or_false])
  rw [hit_succ hk, decide_eq_true rfl, Bool.or_true] at h
  exact h
theorem numL_zero (ds L : List D) (q : Nat) : numL ds L q 0 = List.replicate q 0 := by
  unfold numL
  apply List.ext_getElem
  · simp
  · intro i h1 h2
    simp [numF]
theorem metT_zero (ds L : List D) (q : Nat) : metT ds L q 0 = List.replicate q false := by
  unfold metT
  apply List.ext_getElem
  · simp
  · intro i h1 h2
    simp [hit]
/-- The k-th definition has a name of a member that none before it has. -/
def tGood (ds L : List D) (k : Nat) : Bool := match L[k]? with
  | some d => decide (0 ≤ fidx (isNm d.name) ds) && !hit ds L k (rkN ds d.name)
  | none => false
def tTo (ds L : List D) : Nat → Bool
  | 0 => true
  | k + 1 => tTo ds L k && tGood ds L k
def inT (d : D) : Bool := decide (-1000 ≤ d.val) && decide (d.val ≤ 1000)
def mTabOk (ds L : List D) : Bool := vEnum ds && tTo ds L L.length && decide (L.length = (mems ds).length) && L.all inT
def mTab (ds L : List D) : List Int := if mTabOk ds L then numL ds L (mems ds).length L.length else []
theorem tGood_at {ds L : List D} {k : Nat} (hk : k < L.length) : tGood ds L k = (decide (0 ≤ fidx (isNm L[k].name) ds) && !hit ds L k (rkN ds L[k].name)) := by
  unfold tGood
  rw [List.getElem?_eq_getElem hk]
theorem tTo_no {ds L : List D} {k : Nat} (h : tGood ds L k = false) : ∀ n, k < n → tTo ds L n = false
  | 0, h2 => absurd h2 (by omega)
  | n + 1, h2 => by
    rw [tTo]
    by_cases e : k = n
    · subst e; rw [h, Bool.and_false]
    · rw [tTo_no h n (by omega), Bool.false_and]
theorem tTo_all {ds L : List D} : ∀ {n : Nat}, tTo ds L n = true → ∀ k, k < n → tGood ds L k = true
  | 0, _, k, h => absurd h (by omega)
  | n + 1, h, k, hk => by
    rw [tTo, Bool.and_eq_true] at h
    by_cases e : k = n
    · subst e; exact h.2
    · exact tTo_all h.1 k (by omega)
theorem mTab_no {ds L : List D} (h : mTabOk ds L = false) : mTab ds L = [] := by unfold mTab; rw [h]; rfl
theorem mTab_bad {ds L : List D} {k : Nat} (hk : k < L.length) (h : tGood ds L k = false) : mTabOk ds L = false := by
  unfold mTabOk
  rw [tTo_no h _ hk, Bool.and_false, Bool.false_and, Bool.false_and]
theorem mTab_out {ds L : List D} {k : Nat} (hk : k < L.length) (h : inT L[k] = false) : mTabOk ds L = false := by
  unfold mTabOk
  have : L.all inT = false := List.all_eq_false.2 ⟨_, List.getElem_mem hk, by rw [h]; exact Bool.false_ne_true⟩
  rw [this, Bool.and_false]
theorem mTab_count {ds L : List D} (h : L.length ≠ (mems ds).length) : mTabOk ds L = false := by
  unfold mTabOk
  rw [decide_eq_false h, Bool.and_false, Bool.false_and]
theorem mTab_inv {ds L : List D} (h : vEnum ds = false) : mTabOk ds L = false := by unfold mTabOk; rw [h, Bool.false_and, Bool.false_and, Bool.false_and]
/-- The value of a definition stands at its rank, where all of them are good. -/
theorem numF_at {ds L : List D} : ∀ (n : Nat), n ≤ L.length → tTo ds L n = true → ∀ k (hk : k < L.length), k < n → numF ds L n (rkN ds L[k].name) = L[k].val
  | 0, _, _, k, hk, h => absurd h (by omega)
  | n + 1, hn, ht, k, hk, h => by
    have hn' : n < L.length := by omega
    rw [numF_succ hn']
    rw [tTo, Bool.and_eq_true] at ht
    by_cases e : k = n
    · subst e; rw [if_pos rfl]
    · rw [if_neg, numF_at n (by omega) ht.1 k hk (by omega)]
      intro e2
      have h1 := ht.2
      rw [tGood_at hn', Bool.and_eq_true, Bool.not_eq_true'] at h1
      have h2 : hit ds L n (rkN ds L[n].name) = true := by
        unfold hit
        rw [List.any_eq_true]
        exact ⟨L[k], List.mem_take_iff_getElem.2 ⟨k, by omega, rfl⟩, by rw [e2]; simp⟩
      rw [h1.2] at h2
      cases h2
theorem numF_rng {ds L : List D} (h : L.all inT = true) : ∀ (n r : Nat), -1000 ≤ numF ds L n r ∧ numF ds L n r ≤ 1000
  | 0, r => by rw [numF]; omega
  | n + 1, r => by
    rw [numF]
    split
    · rename_i d hd
      split
      · have h1 := List.all_eq_true.1 h d (List.mem_of_getElem? hd)
        unfold inT at h1
        rw [Bool.and_eq_true, decide_eq_true_iff, decide_eq_true_iff] at h1
        exact h1
      · exact numF_rng h n r
    · exact numF_rng h n r
theorem rkN_lt {ds : List D} {s : ByteArray} (hv : vEnum ds = true) (h : 0 ≤ fidx (isNm s) ds) : rkN ds s < (mems ds).length := by
  rcases fidx_cases (isNm s) ds with ⟨h2, _⟩ | ⟨j, hj, hx, _, _⟩
  · omega
  · obtain ⟨r, _, hr, he⟩ := rk_in hv hj
    unfold rkN
    rw [valI_at hj hx, he, Int.toNat_natCast]
    exact hr
/-- What the model asks at the end: the numbers are a table. -/
theorem tab_end {ds L : List D} (hv : vEnum ds = true) (ht : tTo ds L L.length = true) (hl : L.length = (mems ds).length) : mTabOk ds L = tabN ds (numL ds L (mems ds).length L.length) := by
  have e : tabN ds (numL ds L (mems ds).length L.length) = !(numL ds L (mems ds).length L.length).any bey := by
    unfold tabN tabOk
    rw [numL_len, hv]
    have : (mMembers ds).length = (mems ds).length := by unfold mMembers; rw [hv, if_pos rfl, List.length_map]
    rw [this, decide_eq_true rfl]
    rfl
  rw [e]
  unfold mTabOk
  rw [hv, ht, decide_eq_true hl, Bool.true_and, Bool.true_and, Bool.true_and]
  rw [Bool.eq_iff_iff, Bool.not_eq_true', List.any_eq_false]
  constructor
  · intro h x hx
    obtain ⟨r, _, rfl⟩ := List.mem_map.1 hx
    have := numF_rng h (ds := ds) L.length r
    unfold bey
    simp
    omega
  · intro h
    rw [List.all_eq_true]
    intro d hd
    obtain ⟨k, hk, rfl⟩ := List.mem_iff_getElem.1 hd
    have hg := tTo_all ht k hk
    rw [tGood_at hk, Bool.and_eq_true, decide_eq_true_iff] at hg
    have hm : L[k].val ∈ numL ds L (mems ds).length L.length := by
      unfold numL
      rw [List.mem_map]
      exact ⟨rkN ds L[k].name, List.mem_range.2 (rkN_lt hv hg.1), numF_at L.length (Nat.le_refl _) ht k hk hk⟩
    have := h _ hm
    unfold bey at this
    unfold inT
    simp at this ⊢
    omega
end Go.Proofs.Ytpmanbmhbfnefaa
