import Derived.Test.YtpmanbmhbfnefaaArmV
import Derived.Test.YtpmanbmhbfnefaaMissS
import Derived.Test.YtpmanbmhbfnefaaZapT
import Derived.Deep.DeepCutAuto
import Derived.Deep.RegionHeld3
import Derived.Test.YtpmanbmhbfnefaaBaseR
import Derived.Deep.LoopGhost
import Derived.Test.YtpmanbmhbfnefaaArmW
import Derived.Test.YtpmanbmhbfnefaaAlgJ
import Derived.Test.YtpmanbmhbfnefaaArmsC
namespace Go.Proofs.Ytpmanbmhbfnefaa
open Go.RowKit Go.Maps
set_option linter.unusedVariables false
set_option maxRecDepth 100000

/-! ### greatest arms: the model -/
/-- All numbers that the arm p, q matches are in a list. -/
def okIn (all list : List Int) (p q : Nat) : Bool := all.all fun n => !matchN p q n.toNat || list.any fun y => decide (y = n)
def rowA (all list : List Int) (p : Int) (qs : List Int) : List Ar := (qs.filter fun q => okIn all list p.toNat q.toNat).map fun q => ⟨p, q⟩
def othersOf (m : Nat) (p : Int) : List Int := partsTo (nl m p.toNat) (nl m p.toNat + 1)
def armsA (m : Nat) (all list ps : List Int) : List Ar := ps.flatMap fun p => rowA all list p (othersOf m p)
def mArmsIn (m : Nat) (list : List Int) : List Ar := armsA m (partsTo m (m + 1)) list (partsTo m (m + 1))
theorem okIn_snoc {all list : List Int} {p q k : Nat} (hk : k < all.length) : okIn (all.take (k + 1)) list p q = (okIn (all.take k) list p q && (!matchN p q all[k].toNat || list.any fun y => decide (y = all[k]))) := by
  unfold okIn
  rw [List.take_succ_eq_append_getElem hk, List.all_append, List.all_cons, List.all_nil, Bool.and_true]
theorem okIn_no {all list : List Int} {p q k : Nat} (hk : k < all.length) (h : (!matchN p q all[k].toNat || list.any fun y => decide (y = all[k])) = false) : okIn all list p q = false := by
  unfold okIn
  rw [List.all_eq_false]
  exact ⟨_, List.getElem_mem hk, by rw [h]; exact Bool.false_ne_true⟩
theorem rowA_snoc {all list qs : List Int} {p : Int} {k : Nat} (hk : k < qs.length) : rowA all list p (qs.take (k + 1)) = rowA all list p (qs.take k) ++ if okIn all list p.toNat qs[k].toNat then [⟨p, qs[k]⟩] else [] := by
  unfold rowA
  rw [List.take_succ_eq_append_getElem hk, List.filter_append, List.map_append]
  congr 1
  rw [List.filter_cons, List.filter_nil]
  cases okIn all list p.toNat qs[k].toNat <;> rfl
theorem armsA_snoc {m : Nat} {all list ps : List Int} {k : Nat} (hk : k < ps.length) : armsA m all list (ps.take (k + 1)) = armsA m all list (ps.take k) ++ rowA all list ps[k] (othersOf m ps[k]) := by
  unfold armsA
  rw [List.take_succ_eq_append_getElem hk, List.flatMap_append]
  simp only [List.flatMap_cons, List.flatMap_nil, List.append_nil]
theorem rowA_len (all list qs : List Int) (p : Int) : (rowA all list p qs).length ≤ qs.length := by
  unfold rowA
  rw [List.length_map]
  exact List.length_filter_le _ _
theorem armsA_len {m : Nat} {all list : List Int} {c : Nat} : ∀ ps : List Int, (∀ p ∈ ps, (othersOf m p).length ≤ c) → (armsA m all list ps).length ≤ ps.length * c
  | [], _ => by simp [armsA]
  | p :: ps, h => by
    have h1 := armsA_len (all := all) (list := list) ps (fun p hp => h p (List.mem_cons_of_mem _ hp))
    have h2 := rowA_len all list (othersOf m p) p
    have h3 := h p (List.mem_cons_self ..)
    unfold armsA at h1 ⊢
    rw [List.flatMap_cons, List.length_append, List.length_cons, Nat.succ_mul]
    omega
/-! ### how many parts there are -/
theorem popcG_step (a : Nat) : popc a = a % 2 + popc (a / 2) := by
  by_cases h : a = 0
  · subst h; simp [popc_zero]
  · exact popc_pos (by omega)
theorem countG_two (p : Nat → Bool) (m : Nat) : ((List.range (2 * m)).filter p).length = ((List.range m).filter fun n => p (2 * n)).length + ((List.range m).filter fun n => p (2 * n + 1)).length := by
  induction m with
  | zero => rfl
  | succ m ih =>
    rw [show 2 * (m + 1) = 2 * m + 1 + 1 by omega, List.range_succ, List.range_succ, List.range_succ]
    simp only [List.filter_append, List.length_append, ih, List.filter_cons, List.filter_nil]
    cases p (2 * m) <;> cases p (2 * m + 1) <;> simp <;> omega
theorem partG_half (x y : Nat) : nl x y = 0 ↔ nl (x / 2) (y / 2) = 0 ∧ (x % 2 = 1 → y % 2 = 1) := by
  rw [nl_zero, nl_zero]
  constructor
  · intro h
    refine ⟨fun i hi => ?_, fun hx => ?_⟩
    · rw [Nat.testBit_div_two] at hi ⊢; exact h _ hi
    · have := h 0 (by rw [Nat.testBit_zero]; simp [hx])
      rw [Nat.testBit_zero] at this
      simpa using this
  · rintro ⟨h1, h2⟩ i hi
    cases i with
    | zero => rw [Nat.testBit_zero] at *; simp at *; exact h2 hi
    | succ i => rw [← Nat.testBit_div_two] at *; exact h1 i hi
theorem partsG_count (a : Nat) : ((List.range (a + 1)).filter (partN a)).length = 2 ^ popc a := by
  induction a using Nat.strongRecOn with
  | ind a ih =>
    by_cases h0 : a = 0
    · subst h0; decide +kernel
    · have ih2 := ih (a / 2) (by omega)
      have he : ∀ n, partN a (2 * n) = partN (a / 2) n := fun n => by
        unfold partN; rw [decide_eq_decide, partG_half, show 2 * n / 2 = n by omega]
        constructor
        · exact fun h => h.1
        · exact fun h => ⟨h, fun h2 => by omega⟩
      have ho : ∀ n, partN a (2 * n + 1) = (partN (a / 2) n && decide (a % 2 = 1)) := fun n => by
        rw [Bool.eq_iff_iff, Bool.and_eq_true, decide_eq_true_iff]
        unfold partN; rw [decide_eq_true_iff, decide_eq_true_iff, partG_half, show (2 * n + 1) / 2 = n by omega]
        constructor
        · exact fun h => ⟨h.1, h.2 (by omega)⟩
        · exact fun h => ⟨h.1, fun _ => h.2⟩
      have hc := countG_two (partN a) (a / 2 + 1)
      have e1 : (fun n => partN a (2 * n)) = partN (a / 2) := funext he
      rw [e1, ih2] at hc
      by_cases hodd : a % 2 = 1
      · have e2 : (fun n => partN a (2 * n + 1)) = partN (a / 2) := funext fun n => by rw [ho, decide_eq_true hodd, Bool.and_true]
        rw [e2, ih2, show 2 * (a / 2 + 1) = a + 1 by omega] at hc
        rw [hc, popcG_step a, hodd, Nat.add_comm 1, Nat.pow_succ]; omega
      · have e2 : (fun n => partN a (2 * n + 1)) = fun _ => false := funext fun n => by rw [ho, decide_eq_false hodd, Bool.and_false]
        rw [e2, show 2 * (a / 2 + 1) = a + 1 + 1 by omega, List.range_succ, List.filter_append, List.length_append] at hc
        have e3 : partN a (a + 1) = false := by
          rw [show a + 1 = 2 * (a / 2) + 1 by omega, ho, decide_eq_false hodd, Bool.and_false]
        rw [List.filter_cons, e3] at hc
        have e4 : ((List.range (a / 2 + 1)).filter fun _ => false) = [] := by rw [List.filter_eq_nil_iff]; intro x _ h; cases h
        rw [e4] at hc
        simp at hc
        rw [hc, popcG_step a, show a % 2 = 0 by omega, Nat.zero_add]
theorem partsG_len (a : Nat) : (partsTo a (a + 1)).length = 2 ^ popc a := by
  unfold partsTo; rw [List.length_map]; exact partsG_count a
theorem partsG_mem {p : Nat} {x : Int} (h : x ∈ partsTo p (p + 1)) : ∃ t : Nat, x = (t : Int) ∧ t ≤ p ∧ nl t p = 0 := by
  unfold partsTo at h
  obtain ⟨t, ht, rfl⟩ := List.mem_map.1 h
  obtain ⟨h1, h2⟩ := List.mem_filter.1 ht
  rw [List.mem_range] at h1
  unfold partN at h2
  exact ⟨t, rfl, by omega, by simpa using h2⟩
/-- At most 64 parts of a number of at most six bits, and of what is left of it. -/
theorem parts64 {m : Nat} (h : popc m ≤ 6) : (partsTo m (m + 1)).length ≤ 64 := by
  rw [partsG_len]
  exact Nat.le_trans (Nat.pow_le_pow_right (by omega) h) (by decide)
theorem others64 {m : Nat} (h : popc m ≤ 6) : ∀ p ∈ partsTo m (m + 1), (othersOf m p).length ≤ 64 := by
  intro p hp
  obtain ⟨t, rfl, _, h2⟩ := partsG_mem hp
  have h3 := popc_nl h2
  unfold othersOf
  rw [Int.toNat_natCast]
  exact parts64 (by omega)
/-- All of a class's arms that match only numbers of a list: at most 4096. -/
theorem armsIn_len {m : Nat} {list : List Int} (h : popc m ≤ 6) {k : Nat} : (armsA m (partsTo m (m + 1)) list ((partsTo m (m + 1)).take k)).length ≤ 4096 := by
  have h1 := armsA_len (m := m) (all := partsTo m (m + 1)) (list := list) (c := 64) ((partsTo m (m + 1)).take k) (fun p hp => others64 h p (List.mem_of_mem_take hp))
  have h2 := parts64 h
  have h3 : ((partsTo m (m + 1)).take k).length ≤ 64 := by rw [List.length_take]; omega
  have h4 := Nat.mul_le_mul_right 64 h3
  omega
end Go.Proofs.Ytpmanbmhbfnefaa

namespace Go.Proofs.Ytpmanbmhbfnefaa
open Go.RowKit Go.Maps
set_option linter.unusedVariables false
set_option maxRecDepth 100000

/-! ### the greatest of a row of arms: by index (the specification) and by value (the program) -/
def eqA (a b : Ar) : Bool := decide (a.all = b.all) && decide (a.non = b.non)
def covA (a b : Ar) : Bool := coverN a.all.toNat a.non.toNat b.all.toNat b.non.toNat
def covAt (arms : List Ar) (j i : Nat) : Bool := match arms[j]?, arms[i]? with
  | some x, some y => covA x y
  | _, _ => false
/-- One of the first k, not that at i, covers that at i. -/
def covIx (arms : List Ar) (i k : Nat) : Bool := (List.range k).any fun j => decide (j ≠ i) && covAt arms j i
/-- Those of the first k that no other one covers. -/
def grTo (arms : List Ar) (k : Nat) : List Ar := (List.range k).filterMap fun i => if covIx arms i arms.length then none else arms[i]?
def mGrI (arms : List Ar) : List Ar := grTo arms arms.length
def covV (arms : List Ar) (a : Ar) : Bool := arms.any fun b => !eqA b a && covA b a
def mGrV (arms : List Ar) : List Ar := arms.filter fun a => !covV arms a
theorem covAt_at {arms : List Ar} {i j : Nat} (hi : i < arms.length) (hj : j < arms.length) : covAt arms j i = covA arms[j] arms[i] := by
  unfold covAt; rw [List.getElem?_eq_getElem hi, List.getElem?_eq_getElem hj]
theorem covIx_succ {arms : List Ar} {i k : Nat} (hi : i < arms.length) (hk : k < arms.length) : covIx arms i (k + 1) = (covIx arms i k || (decide (k ≠ i) && covA arms[k] arms[i])) := by
  unfold covIx
  rw [List.range_succ, List.any_append, List.any_cons, List.any_nil, Bool.or_false, covAt_at hi hk]
theorem grTo_succ {arms : List Ar} {k : Nat} (hk : k < arms.length) : grTo arms (k + 1) = grTo arms k ++ if covIx arms k arms.length then [] else [arms[k]] := by
  unfold grTo
  rw [List.range_succ, List.filterMap_append]
  congr 1
  rw [List.filterMap_cons, List.filterMap_nil]
  cases covIx arms k arms.length
  · simp [List.getElem?_eq_getElem hk]
  · simp
theorem grTo_len (arms : List Ar) (k : Nat) : (grTo arms k).length ≤ k := by
  unfold grTo
  have := List.length_filterMap_le (fun i => if covIx arms i arms.length then none else arms[i]?) (List.range k)
  rw [List.length_range] at this
  exact this
/-- No arm stands twice. -/
def Apt (arms : List Ar) : Prop := arms.Pairwise fun a b => eqA a b = false
theorem eqA_comm (a b : Ar) : eqA a b = eqA b a := by
  unfold eqA
  rw [Bool.eq_iff_iff]
  simp only [Bool.and_eq_true, decide_eq_true_iff]
  exact ⟨fun h => ⟨h.1.symm, h.2.symm⟩, fun h => ⟨h.1.symm, h.2.symm⟩⟩
theorem eqA_self (a : Ar) : eqA a a = true := by unfold eqA; simp
theorem Apt.at_ {arms : List Ar} (h : Apt arms) {i j : Nat} (hi : i < arms.length) (hj : j < arms.length) (hne : i ≠ j) : eqA arms[i] arms[j] = false := by
  rcases Nat.lt_or_gt_of_ne hne with hl | hl
  · exact List.pairwise_iff_getElem.1 h i j hi hj hl
  · rw [eqA_comm]; exact List.pairwise_iff_getElem.1 h j i hj hi hl
theorem covIx_V {arms : List Ar} (h : Apt arms) {i : Nat} (hi : i < arms.length) : covIx arms i arms.length = covV arms arms[i] := by
  unfold covIx covV
  rw [Bool.eq_iff_iff, List.any_eq_true, List.any_eq_true]
  constructor
  · rintro ⟨j, hj, hc⟩
    have hj' := List.mem_range.1 hj
    rw [covAt_at hi hj', Bool.and_eq_true, decide_eq_true_iff] at hc
    exact ⟨arms[j], List.getElem_mem hj', by rw [h.at_ hj' hi hc.1, hc.2]; rfl⟩
  · rintro ⟨b, hb, hc⟩
    obtain ⟨j, hj, rfl⟩ := List.mem_iff_getElem.1 hb
    rw [Bool.and_eq_true, Bool.not_eq_true'] at hc
    refine ⟨j, List.mem_range.2 hj, ?_⟩
    rw [covAt_at hi hj, hc.2, Bool.and_true, decide_eq_true_iff]
    intro e
    subst e
    rw [eqA_self] at hc
    exact absurd hc.1 (by decide)
theorem gr_same {arms : List Ar} (h : Apt arms) : mGrI arms = mGrV arms := by
  have key : ∀ k, k ≤ arms.length → grTo arms k = (arms.take k).filter fun a => !covV arms a := by
    intro k
    induction k with
    | zero => intro _; rfl
    | succ k ih =>
      intro hk
      have hk' : k < arms.length := by omega
      rw [grTo_succ hk', ih (by omega), List.take_succ_eq_append_getElem hk', List.filter_append]
      congr 1
      rw [covIx_V h hk', List.filter_cons, List.filter_nil]
      cases covV arms arms[k] <;> rfl
  have := key arms.length (Nat.le_refl _)
  rw [List.take_of_length_le (Nat.le_refl _)] at this
  exact this
/-! ### the row of all arms has none twice -/
theorem partsTo_apart (a k : Nat) : (partsTo a k).Pairwise fun x y => x ≠ y := by
  unfold partsTo
  rw [List.pairwise_map]
  have h1 : ((List.range k).filter (partN a)).Pairwise (· < ·) := List.Pairwise.filter _ List.pairwise_lt_range
  refine List.Pairwise.imp ?_ h1
  intro x y hxy e
  have e2 : x = y := Int.ofNat.inj e
  omega
theorem rowA_apart {all list qs : List Int} {p : Int} (h : qs.Pairwise fun x y => x ≠ y) : Apt (rowA all list p qs) := by
  unfold Apt rowA
  rw [List.pairwise_map]
  refine List.Pairwise.imp ?_ (List.Pairwise.filter _ h)
  intro x y hxy
  unfold eqA
  rw [decide_eq_false hxy, Bool.and_false]
theorem rowA_all {all list qs : List Int} {p : Int} {a : Ar} (h : a ∈ rowA all list p qs) : a.all = p := by
  unfold rowA at h
  obtain ⟨q, _, rfl⟩ := List.mem_map.1 h
  rfl
theorem armsA_all {m : Nat} {all list ps : List Int} {a : Ar} (h : a ∈ armsA m all list ps) : a.all ∈ ps := by
  unfold armsA at h
  obtain ⟨p, hp, ha⟩ := List.mem_flatMap.1 h
  rw [rowA_all ha]
  exact hp
theorem armsA_apart {m : Nat} {all list : List Int} : ∀ {ps : List Int}, (ps.Pairwise fun x y => x ≠ y) → Apt (armsA m all list ps)
  | [], _ => List.Pairwise.nil
  | p :: ps, h => by
    have h1 := List.pairwise_cons.1 h
    have h2 := armsA_apart (m := m) (all := all) (list := list) h1.2
    have e : armsA m all list (p :: ps) = rowA all list p (othersOf m p) ++ armsA m all list ps := by unfold armsA; rw [List.flatMap_cons]
    rw [e]
    unfold Apt at h2 ⊢
    refine List.pairwise_append.2 ⟨rowA_apart (partsTo_apart _ _), h2, fun a ha b hb => ?_⟩
    have e1 := rowA_all ha
    have e2 := h1.1 _ (armsA_all hb)
    unfold eqA
    rw [e1, decide_eq_false e2, Bool.false_and]
theorem mArmsIn_apart (m : Nat) (list : List Int) : Apt (mArmsIn m list) := armsA_apart (partsTo_apart _ _)
/-! ### what GreatestArms answers -/
def mGrOk (ds : List D) (b : Int) (list : List Int) : Bool := vFlag ds b && decide (popc (mMask ds) ≤ 6) && decide (list.length ≤ 64) && list.all fun n => (decide (0 ≤ n) && decide (n ≤ 4095)) && decide (nl n.toNat (mMask ds) = 0)
def mGreat (ds : List D) (b : Int) (list : List Int) : List Ar := if mGrOk ds b list then mGrI (mArmsIn (mMask ds) list) else []
theorem mGreat_V (ds : List D) (b : Int) (list : List Int) : mGreat ds b list = if mGrOk ds b list then mGrV (mArmsIn (mMask ds) list) else [] := by
  unfold mGreat; rw [gr_same (mArmsIn_apart _ _)]
end Go.Proofs.Ytpmanbmhbfnefaa

namespace Go.Proofs.Ytpmanbmhbfnefaa
open Go.RowKit Go.Maps
set_option linter.unusedVariables false
set_option maxRecDepth 100000

/-! ### the program's row of arms: the same -/
theorem and_zeroG {t n : Nat} : t &&& n = 0 ↔ ∀ i, t.testBit i = true → n.testBit i = false := by
  constructor
  · intro h i hi
    have h2 := congrArg (fun x => x.testBit i) h
    simp only [Nat.testBit_and, hi, Bool.true_and, Nat.zero_testBit] at h2
    exact h2
  · intro h
    apply tb_ext
    intro i
    rw [Nat.testBit_and, Nat.zero_testBit]
    cases ht : t.testBit i
    · rfl
    · rw [h i ht]; rfl
theorem part_free {m t n : Nat} : partN (nl m t) n = (partN m n && decide (t &&& n = 0)) := by
  unfold partN
  rw [Bool.eq_iff_iff, Bool.and_eq_true, decide_eq_true_iff, decide_eq_true_iff, decide_eq_true_iff, nl_zero, nl_zero, and_zeroG]
  constructor
  · intro h
    refine ⟨fun i hi => ?_, fun i hi => ?_⟩
    · have := h i hi
      rw [tb_nl, Bool.and_eq_true] at this
      exact this.1
    · cases hn : n.testBit i
      · rfl
      · have := h i hn
        rw [tb_nl, Bool.and_eq_true, hi] at this
        exact absurd this.2 (by decide)
  · rintro ⟨h1, h2⟩ i hi
    rw [tb_nl, h1 i hi, Bool.true_and]
    cases ht : t.testBit i
    · rfl
    · rw [h2 i ht] at hi; cases hi
theorem partsTo_more {a : Nat} : ∀ d, partsTo a (a + 1 + d) = partsTo a (a + 1)
  | 0 => rfl
  | d + 1 => by
    rw [show a + 1 + (d + 1) = a + 1 + d + 1 by omega, partsTo_succ, partsTo_more d]
    have : partN a (a + 1 + d) = false := by
      unfold partN
      rw [decide_eq_false_iff_not]
      intro h
      have := part_le h
      omega
    rw [this]
    simp
/-- The parts beside an arm's bits: of the parts those that have none of them. -/
theorem others_filter (m t : Nat) : othersOf m (t : Int) = (partsTo m (m + 1)).filter fun q => decide (t &&& q.toNat = 0) := by
  unfold othersOf
  rw [Int.toNat_natCast]
  have h := nl_le m t
  rw [← partsTo_more (a := nl m t) (m - nl m t), show nl m t + 1 + (m - nl m t) = m + 1 by omega]
  unfold partsTo
  rw [List.filter_map]
  congr 1
  rw [List.filter_filter]
  congr 1
  funext n
  rw [part_free, Bool.and_comm]
  rfl
/-- The row of one number, as the program makes it: over all numbers, those with a bit of it passed over. -/
def rowW (all list : List Int) (p : Int) (qs : List Int) : List Ar := (qs.filter fun q => decide (p.toNat &&& q.toNat = 0) && okIn all list p.toNat q.toNat).map fun q => ⟨p, q⟩
theorem rowW_snoc {all list qs : List Int} {p : Int} {k : Nat} (hk : k < qs.length) : rowW all list p (qs.take (k + 1)) = rowW all list p (qs.take k) ++ if decide (p.toNat &&& qs[k].toNat = 0) && okIn all list p.toNat qs[k].toNat then [⟨p, qs[k]⟩] else [] := by
  unfold rowW
  rw [List.take_succ_eq_append_getElem hk, List.filter_append, List.map_append]
  congr 1
  rw [List.filter_cons, List.filter_nil]
  cases (decide (p.toNat &&& qs[k].toNat = 0) && okIn all list p.toNat qs[k].toNat) <;> rfl
theorem rowW_is (m t : Nat) (list : List Int) : rowW (partsTo m (m + 1)) list (t : Int) (partsTo m (m + 1)) = rowA (partsTo m (m + 1)) list (t : Int) (othersOf m (t : Int)) := by
  unfold rowW rowA
  rw [others_filter, List.filter_filter, Int.toNat_natCast]
  congr 2
  funext q
  rw [Bool.and_comm]
end Go.Proofs.Ytpmanbmhbfnefaa

namespace Go.Proofs.Ytpmanbmhbfnefaa
open Go.RowKit Go.Maps
set_option linter.unusedVariables false
set_option linter.unusedSimpArgs false
set_option maxRecDepth 100000

set_option maxHeartbeats 8000000 in
theorem allIn_v (all list : List Int) (p q : Nat) (A B : Option Addr) (n c m d : Nat) (w : World) (ha : SI w w.heap.size A n c all) (hb : SI w w.heap.size B m d list) (hin : ∀ x ∈ all, ∃ t : Nat, x = (t : Int) ∧ t < 4096) (hp : p < 4096) (hq : q < 4096) {v : Bool} (hv : okIn all list p q = v) :
    Calls Try.prog 99 #[.slice A n c, .slice B m d, .agg #[.int .i64 p, .int .i64 q]] w fun e w' => e = .returned (.bool v) ∧ Below w.heap.size w w' := by
  subst hv
  obtain rfl := ha.len
  have hl := ha.max
  have hl2 := ha.cap
  unfold maxLen at hl
  have HIN := Lib.hid hin
  obtain ⟨w0, hw⟩ : ∃ W : World, W = (w.alloc (.cells #[.int .i64 p, .int .i64 q] 72)) := ⟨_, rfl⟩
  have hb0 : Below w.heap.size w w0 := by rw [hw]; exact (Below.refl _ _).alloc (Nat.le_refl _) _
  have c0_0 : w0.cell? ⟨w.heap.size, 0, none⟩ = some (.int .i64 p) := by rw [hw]; simp [go_sem]
  have c1_0 : w0.cell? ⟨w.heap.size, 1, none⟩ = some (.int .i64 q) := by rw [hw]; simp [go_sem]
  have HA_0 := Lib.hid ((ha.below hb0).call hb0.size)
  have HB_0 := Lib.hid ((hb.below hb0).call hb0.size)
  have HB0 := Lib.hid hb0
  have HW0 : Hid ((w.alloc (.cells #[.int .i64 p, .int .i64 q] 72)) = w0) := Lib.hid hw.symm
  clear ha hb hin hw hb0
  go_enter Try.func99, Try.ntmps99
  go_wp2
  rw [HW0.out]
  go_loopw [7] (fun i wr => ∃ k : Nat, k ≤ all.length ∧ i = .int .i64 k ∧ Hid (okIn (all.take k) list p q = true) ∧ Hid (Below w0.heap.size w0 wr)) (fun i _ => all.length - (intOf i).toNat)
  case atStart => exact ⟨0, Nat.zero_le _, rfl, Lib.hid rfl, Lib.hid (Below.refl _ _)⟩
  case round =>
    obtain ⟨k, hk, rfl, hok, hbel⟩ := hrel
    by_cases hlt : k < all.length
    · have c0_1 := keep1 hbel.out c0_0
      have c1_1 := keep1 hbel.out c1_0
      have HA_1 := Lib.hid ((HA_0.out.below hbel.out).call hbel.out.size)
      have HB_1 := Lib.hid ((HB_0.out.below hbel.out).call hbel.out.size)
      obtain ⟨b, o, hA, hbb, x1_1⟩ := HA_1.out.at_ hlt
      subst hA
      have HN := Lib.hid (okIn_snoc (list := list) (p := p) (q := q) hlt)
      have HNO : Hid ((!matchN p q all[k].toNat || list.any fun y => decide (y = all[k])) = false → okIn all list p q = false) := Lib.hid (okIn_no hlt)
      obtain ⟨t, ht, ht4⟩ := HIN.out _ (List.getElem_mem hlt)
      rw [ht] at HN HNO x1_1
      rw [Int.toNat_natCast] at HN HNO
      rw [hok.out, Bool.true_and] at HN
      have HTA := Lib.hid ht
      clear ht
      have hi1 : (k : Int) < (all.length : Int) := by omega
      have hi0 : (0 : Int) ≤ (k : Int) := by omega
      obtain ⟨mt, hmt⟩ : ∃ v, matchN p q t = v := ⟨_, rfl⟩
      have HMT := Lib.hid hmt
      rw [hmt] at HN HNO
      clear hmt
      clear c0_0 c1_0
      go_upto_region 4 with fail
      refine wp_region_held_drew (S := fun w' => w'.cell? ⟨w.heap.size, 0, none⟩ = some (.int .i64 p) ∧ w'.cell? ⟨w.heap.size, 1, none⟩ = some (.int .i64 q) ∧ w'.cell? ⟨b, o + k, none⟩ = some (.int .i64 t)) (by kernel_rfl) ⟨c0_1, c1_1, x1_1⟩ (fun hHeld => ?_)
      generalize hwd : wr.drew = w2 at hHeld ⊢
      have hb : Below wr.heap.size wr w2 := by rw [← hwd]; exact (Below.refl _ _).drew
      have c0_2 := keep1 hb c0_1
      have c1_2 := keep1 hb c1_1
      have x1_2 := keep1 hb x1_1
      have HA_2 := Lib.hid ((HA_1.out.below hb).call hb.size)
      have HB_2 := Lib.hid ((HB_1.out.below hb).call hb.size)
      have HL_2 : Hid (Below w0.heap.size w0 w2) := Lib.hid (hbel.out.trans (hb.mono hbel.out.size))
      clear c0_1 c1_1 x1_1 HA_1 HB_1 hbel
      clear hb hwd
      refine wpAnyH_take (i := 0) (v := ?_) rfl (by kernel_rfl) (by kernel_rfl) (by kernel_rfl) (fun _ _ _ h => h) (Or.inl ⟨by kernel_rfl, ?_⟩) hHeld ?_
      rotate_left
      · intro wz hSw
        try dsimp only at hSw
        first
        | (go_simp; done)
        | (go_simp; with_reducible rfl)
      try simp only [Act.put, List.setIfInBounds_toArray, List.set_cons_zero, List.set_cons_succ]
      refine wpAnyH_take (i := 1) (v := ?_) rfl (by kernel_rfl) (by kernel_rfl) (by kernel_rfl) (fun _ _ _ h => h) (Or.inl ⟨by kernel_rfl, ?_⟩) hHeld ?_
      rotate_left
      · intro wz hSw
        try dsimp only at hSw
        first
        | (go_simp; done)
        | (go_simp; with_reducible rfl)
      try simp only [Act.put, List.setIfInBounds_toArray, List.set_cons_zero, List.set_cons_succ]
      refine wpAnyH_take (i := 2) (v := ?_) rfl (by kernel_rfl) (by kernel_rfl) (by kernel_rfl) (fun _ _ _ h => h) (Or.inl ⟨by kernel_rfl, ?_⟩) hHeld ?_
      rotate_left
      · intro wz hSw
        try dsimp only at hSw
        first
        | (go_simp; done)
        | (go_simp; with_reducible rfl)
      try simp only [Act.put, List.setIfInBounds_toArray, List.set_cons_zero, List.set_cons_succ]
      refine wpAnyH_take (i := 3) (v := ?_) rfl (by kernel_rfl) (by kernel_rfl) (by kernel_rfl) (fun _ _ _ h => h) (Or.inl ⟨by kernel_rfl, ?_⟩) hHeld ?_
      rotate_left
      · intro wz hSw
        try dsimp only at hSw
        first
        | (go_simp; done)
        | (go_simp; with_reducible rfl)
      try simp only [Act.put, List.setIfInBounds_toArray, List.set_cons_zero, List.set_cons_succ]
      refine wpAnyH_take (i := 4) (v := ?_) rfl (by kernel_rfl) (by kernel_rfl) (by kernel_rfl) (fun _ _ _ h => h) (Or.inl ⟨by kernel_rfl, ?_⟩) hHeld ?_
      rotate_left
      · intro wz hSw
        try dsimp only at hSw
        first
        | (go_simp; done)
        | (go_simp; with_reducible rfl)
      try simp only [Act.put, List.setIfInBounds_toArray, List.set_cons_zero, List.set_cons_succ]
      refine wpAnyH_ready (rs := [5]) (by kernel_rfl) (by simp) ?_
      refine AllReadyH.cons rfl (fun K hK => ?_) AllReadyH.nil
      go_simp
      go_at_call 117
      refine (specMatches_v p q t _ hp hq ht4 HMT.out).mono ?_
      rintro e w3 ⟨rfl, hb⟩
      have c0_3 := keep1 hb c0_2
      have c1_3 := keep1 hb c1_2
      have x1_3 := keep1 hb x1_2
      have HA_3 := Lib.hid ((HA_2.out.below hb).call hb.size)
      have HB_3 := Lib.hid ((HB_2.out.below hb).call hb.size)
      have HL_3 : Hid (Below w0.heap.size w0 w3) := Lib.hid (HL_2.out.trans (hb.mono HL_2.out.size))
      clear hb c0_2 c1_2 x1_2 HA_2 HB_2 HL_2
      refine hK.out _ _ ⟨c0_3, c1_3, x1_3⟩ (fun hHeld => ?_)
      clear hK K
      try simp only [Act.put, List.setIfInBounds_toArray, List.set_cons_zero, List.set_cons_succ]
      refine wpAnyH_take (i := 6) (v := ?_) rfl (by kernel_rfl) (by kernel_rfl) (by kernel_rfl) (fun _ _ _ h => h) (Or.inl ⟨by kernel_rfl, ?_⟩) hHeld ?_
      rotate_left
      · intro wz hSw
        try dsimp only at hSw
        first
        | (go_simp; done)
        | (go_simp; with_reducible rfl)
      try simp only [Act.put, List.setIfInBounds_toArray, List.set_cons_zero, List.set_cons_succ]
      cases mt
      · have HP : Hid (okIn (all.take (k + 1)) list p q = true) := Lib.hid HN.out
        refine wpAnyH_take (i := 7) (v := undef) rfl (by kernel_rfl) (by kernel_rfl) (by kernel_rfl) (fun _ _ _ h => h) (Or.inr ⟨by kernel_rfl, rfl⟩) hHeld ?_
        try simp only [Act.put, List.setIfInBounds_toArray, List.set_cons_zero, List.set_cons_succ]
        refine wpAnyH_take (i := 8) (v := undef) rfl (by kernel_rfl) (by kernel_rfl) (by kernel_rfl) (fun _ _ _ h => h) (Or.inr ⟨by kernel_rfl, rfl⟩) hHeld ?_
        try simp only [Act.put, List.setIfInBounds_toArray, List.set_cons_zero, List.set_cons_succ]
        refine wpAnyH_take (i := 9) (v := undef) rfl (by kernel_rfl) (by kernel_rfl) (by kernel_rfl) (fun _ _ _ h => h) (Or.inr ⟨by kernel_rfl, rfl⟩) hHeld ?_
        try simp only [Act.put, List.setIfInBounds_toArray, List.set_cons_zero, List.set_cons_succ]
        refine wpAnyH_take (i := 10) (v := undef) rfl (by kernel_rfl) (by kernel_rfl) (by kernel_rfl) (fun _ _ _ h => h) (Or.inr ⟨by kernel_rfl, rfl⟩) hHeld ?_
        try simp only [Act.put, List.setIfInBounds_toArray, List.set_cons_zero, List.set_cons_succ]
        refine wpAnyH_take (i := 11) (v := undef) rfl (by kernel_rfl) (by kernel_rfl) (by kernel_rfl) (fun _ _ _ h => h) (Or.inr ⟨by kernel_rfl, rfl⟩) hHeld ?_
        try simp only [Act.put, List.setIfInBounds_toArray, List.set_cons_zero, List.set_cons_succ]
        refine wpAnyH_take (i := 12) (v := undef) rfl (by kernel_rfl) (by kernel_rfl) (by kernel_rfl) (fun _ _ _ h => h) (Or.inr ⟨by kernel_rfl, rfl⟩) hHeld ?_
        try simp only [Act.put, List.setIfInBounds_toArray, List.set_cons_zero, List.set_cons_succ]
        refine wpAnyH_take (i := 13) (v := undef) rfl (by kernel_rfl) (by kernel_rfl) (by kernel_rfl) (fun _ _ _ h => h) (Or.inr ⟨by kernel_rfl, rfl⟩) hHeld ?_
        try simp only [Act.put, List.setIfInBounds_toArray, List.set_cons_zero, List.set_cons_succ]
        refine wpAnyH_take (i := 14) (v := ?_) rfl (by kernel_rfl) (by kernel_rfl) (by kernel_rfl) (fun _ _ _ h => h) (Or.inl ⟨by kernel_rfl, ?_⟩) hHeld ?_
        rotate_left
        · intro wz hSw
          try dsimp only at hSw
          first
          | (go_simp; done)
          | (go_simp; with_reducible rfl)
        try simp only [Act.put, List.setIfInBounds_toArray, List.set_cons_zero, List.set_cons_succ]
        refine wpAnyH_done (by kernel_rfl) ?_ _
        try go_simp
        go_wp2
        go_roundw
        case rel => exact ⟨k + 1, by omega, by go_num, HP, HL_3⟩
        case measure => simp [intOf]; omega
      · obtain ⟨vi, hvi⟩ : ∃ v, (list.any fun y => decide (y = (t : Int))) = v := ⟨_, rfl⟩
        have HVI := Lib.hid hvi
        rw [hvi, Bool.not_true, Bool.false_or] at HN HNO
        clear hvi
        refine wpAnyH_take (i := 7) (v := ?_) rfl (by kernel_rfl) (by kernel_rfl) (by kernel_rfl) (fun _ _ _ h => h) (Or.inl ⟨by kernel_rfl, ?_⟩) hHeld ?_
        rotate_left
        · intro wz hSw
          try dsimp only at hSw
          first
          | (go_simp; done)
          | (go_simp; with_reducible rfl)
        try simp only [Act.put, List.setIfInBounds_toArray, List.set_cons_zero, List.set_cons_succ]
        refine wpAnyH_take (i := 8) (v := ?_) rfl (by kernel_rfl) (by kernel_rfl) (by kernel_rfl) (fun _ _ _ h => h) (Or.inl ⟨by kernel_rfl, ?_⟩) hHeld ?_
        rotate_left
        · intro wz hSw
          try dsimp only at hSw
          first
          | (go_simp; done)
          | (go_simp; with_reducible rfl)
        try simp only [Act.put, List.setIfInBounds_toArray, List.set_cons_zero, List.set_cons_succ]
        refine wpAnyH_take (i := 9) (v := ?_) rfl (by kernel_rfl) (by kernel_rfl) (by kernel_rfl) (fun _ _ _ h => h) (Or.inl ⟨by kernel_rfl, ?_⟩) hHeld ?_
        rotate_left
        · intro wz hSw
          try dsimp only at hSw
          first
          | (go_simp; done)
          | (go_simp; with_reducible rfl)
        try simp only [Act.put, List.setIfInBounds_toArray, List.set_cons_zero, List.set_cons_succ]
        refine wpAnyH_take (i := 10) (v := ?_) rfl (by kernel_rfl) (by kernel_rfl) (by kernel_rfl) (fun _ _ _ h => h) (Or.inl ⟨by kernel_rfl, ?_⟩) hHeld ?_
        rotate_left
        · intro wz hSw
          try dsimp only at hSw
          first
          | (go_simp; done)
          | (go_simp; with_reducible rfl)
        try simp only [Act.put, List.setIfInBounds_toArray, List.set_cons_zero, List.set_cons_succ]
        refine wpAnyH_take (i := 11) (v := ?_) rfl (by kernel_rfl) (by kernel_rfl) (by kernel_rfl) (fun _ _ _ h => h) (Or.inl ⟨by kernel_rfl, ?_⟩) hHeld ?_
        rotate_left
        · intro wz hSw
          try dsimp only at hSw
          first
          | (go_simp; done)
          | (go_simp; with_reducible rfl)
        try simp only [Act.put, List.setIfInBounds_toArray, List.set_cons_zero, List.set_cons_succ]
        refine wpAnyH_ready (rs := [12]) (by kernel_rfl) (by simp) ?_
        refine AllReadyH.cons rfl (fun K hK => ?_) AllReadyH.nil
        go_simp
        go_at_call 118
        refine (hasInt_v list t _ _ _ _ HB_3.out HVI.out).mono ?_
        rintro e w4 ⟨rfl, hb⟩
        have HL_4 : Hid (Below w0.heap.size w0 w4) := Lib.hid (HL_3.out.trans (hb.mono HL_3.out.size))
        have c0_4 := keep1 hb c0_3
        have c1_4 := keep1 hb c1_3
        have x1_4 := keep1 hb x1_3
        clear hb c0_3 c1_3 x1_3
        refine hK.out _ _ ⟨c0_4, c1_4, x1_4⟩ (fun hHeld => ?_)
        clear hK K
        try simp only [Act.put, List.setIfInBounds_toArray, List.set_cons_zero, List.set_cons_succ]
        refine wpAnyH_take (i := 13) (v := ?_) rfl (by kernel_rfl) (by kernel_rfl) (by kernel_rfl) (fun _ _ _ h => h) (Or.inl ⟨by kernel_rfl, ?_⟩) hHeld ?_
        rotate_left
        · intro wz hSw
          try dsimp only at hSw
          first
          | (go_simp; done)
          | (go_simp; with_reducible rfl)
        try simp only [Act.put, List.setIfInBounds_toArray, List.set_cons_zero, List.set_cons_succ]
        refine wpAnyH_take (i := 14) (v := ?_) rfl (by kernel_rfl) (by kernel_rfl) (by kernel_rfl) (fun _ _ _ h => h) (Or.inl ⟨by kernel_rfl, ?_⟩) hHeld ?_
        rotate_left
        · intro wz hSw
          try dsimp only at hSw
          first
          | (go_simp; done)
          | (go_simp; with_reducible rfl)
        try simp only [Act.put, List.setIfInBounds_toArray, List.set_cons_zero, List.set_cons_succ]
        refine wpAnyH_done (by kernel_rfl) ?_ _
        try go_simp
        cases vi
        · have HF : Hid (okIn all list p q = false) := Lib.hid (HNO.out rfl)
          go_wp2
          go_ret
          exact ⟨ret_bool HF.out.symm, HB0.out.trans (HL_4.out.mono HB0.out.size)⟩
        · have HP : Hid (okIn (all.take (k + 1)) list p q = true) := Lib.hid HN.out
          go_wp2
          go_roundw
          case rel => exact ⟨k + 1, by omega, by go_num, HP, HL_4⟩
          case measure => simp [intOf]; omega
    · obtain rfl : k = all.length := by omega
      go_wp2
      go_ret
      have := hok.out
      rw [List.take_of_length_le (Nat.le_refl _)] at this
      exact ⟨ret_bool this.symm, HB0.out.trans (hbel.out.mono HB0.out.size)⟩

theorem wpList_app_Ag {W : World} {ops : Array Oper} {rest : List Oper} {o : Oper} {a : Act} {Q : Exit → Act → World → Prop} (hgd : o.guard = none) (s x : Operand) (ho : o.op = .call { callee := .builtin .append, args := #[s, x], argTypes := #[55, 55] })
    (base : Nat) (v : Value) (n : Nat) (xs : List Value) (hs : a.eval s = v) (hown : W.ownsRow base 72 2 v n xs) (x1 x2 : Int)
    (c g : Nat) (hx : a.eval x = .slice (some ⟨g, 0, none⟩) 1 c) (hgw : g = W.heap.size) (hn : n ≤ 2000000) (hbase : base ≤ W.heap.size)
    (h : ∀ v' w', w'.ownsRow base 72 2 v' (n + 1) (xs ++ [.int .i64 x1, .int .i64 x2]) → Below base W w' → W.grownBy w' v.ownBlock → wpList Try.prog ops Q rest (a.put o.dst v') w') :
    wpList Try.prog ops Q (o :: rest) a (W.alloc (.cells #[.int .i64 x1, .int .i64 x2] 72)) := by
  subst hgw
  obtain ⟨i0, hi, hz0, hz1, hz2⟩ := info_parts info_A
  refine wpList_append_own _ hgd s x _ ho base _ i0 _ 2 16 Try.underlying55 hi hz0 hz1 hz2 rfl (by omega) v n xs hs (hown.alloc _) ⟨W.heap.size, 0, none⟩ 1 c [.int .i64 x1, .int .i64 x2] hx rfl
    (World.news_of_block (heap_alloc_new W _)) (by simp [Value.oneCell']) (by unfold maxLen; omega) (by omega) (by simp; omega) ?_
  intro v' w' h2 h3 _
  exact h v' w' h2 (((Below.refl _ _).alloc hbase _).grown h3 (by simp; omega) (fun k hk => (hown.lt k hk).1)) ((World.grownBy_alloc W _ _).trans h3)
def ArmsP (rs : List Ar) (w : World) (e : Ending) (w' : World) : Prop :=
  ∃ A c, e = .returned (.slice A rs.length c) ∧ w'.ownsRow w.heap.size 72 2 (.slice A rs.length c) rs.length (flatA rs) ∧ Below w.heap.size w w'
set_option maxHeartbeats 8000000 in
theorem armsIn_any (m : Nat) (list : List Int) (B : Option Addr) (q d : Nat) (w : World) (hb : SI w w.heap.size B q d list) (hm : m < 4096) (h6 : popc m ≤ 6) :
    Calls Try.prog 69 #[.int .i64 m, .slice B q d] w (ArmsP (mArmsIn m list) w) := by
  have HL := Lib.hid hb
  clear hb
  obtain ⟨w0, hw⟩ : ∃ W : World, W = (w.alloc (.cells #[] 72)) := ⟨_, rfl⟩
  have hb0 : Below w.heap.size w w0 := by rw [hw]; exact (Below.refl _ _).alloc (Nat.le_refl _) _
  have hs0 : w0.heap.size = w.heap.size + 1 := by rw [hw]; simp
  have HX_0 : Hid (w0.ownsRow w.heap.size 72 2 (.slice (some ⟨w.heap.size, 0, none⟩) 0 0) 0 (flatA [])) := Lib.hid (by rw [hw]; exact World.ownsRow_made w #[] 0 (Nat.le_refl _) (by unfold maxLen; omega) rfl)
  have HB_0 := Lib.hid hb0
  have HW0 : Hid ((w.alloc (.cells #[] 72)) = w0) := Lib.hid hw.symm
  clear hw hb0
  go_enter Try.func69, Try.ntmps69
  go_wp2_with fail
  rw [HW0.out]
  refine (partsIn_any m _ hm).mono ?_
  rintro e w1 ⟨Al, cl, rfl, hoa, hb⟩
  have hal64 := parts64 h6
  have HLEN : Hid (∀ k, (armsA m (partsTo m (m + 1)) list ((partsTo m (m + 1)).take k)).length ≤ 4096) := Lib.hid (fun k => armsIn_len h6)
  have HOT : Hid (∀ p ∈ partsTo m (m + 1), (othersOf m p).length ≤ 64) := Lib.hid (others64 h6)
  have HIN : Hid (∀ x ∈ partsTo m (m + 1), ∃ t : Nat, x = (t : Int) ∧ t < 4096) := Lib.hid (fun x hx => by obtain ⟨t, e1, h1, _⟩ := partsG_mem hx; exact ⟨t, e1, by omega⟩)
  have HRG : Hid (∀ x ∈ partsTo m (m + 1), -9223372036854775808 ≤ x ∧ x ≤ 9223372036854775807) := Lib.hid (fun x hx => by obtain ⟨t, e1, h1⟩ := HIN.out x hx; omega)
  have HMM : Hid (mArmsIn m list = armsA m (partsTo m (m + 1)) list (partsTo m (m + 1))) := Lib.hid rfl
  have HA_1 := Lib.hid hoa
  have HX_1 := Lib.hid (own_below HX_0.out hb)
  have HB_1 : Hid (Below w.heap.size w w1) := Lib.hid (HB_0.out.trans (hb.mono HB_0.out.size))
  have hz1 : w0.heap.size ≤ w1.heap.size := hb.size
  clear hoa hb HX_0 HB_0 HW0
  generalize partsTo m (m + 1) = all at *
  go_wp2
  go_loopw [5, 7] (fun v i wr => ∃ k : Nat, k ≤ all.length ∧ i = .int .i64 k ∧ Hid (wr.ownsRow w.heap.size 72 2 v (armsA m all list (all.take k)).length (flatA (armsA m all list (all.take k)))) ∧ Hid (wr.ownsRow w0.heap.size 3 1 (.slice Al all.length cl) all.length (flatI all)) ∧ Hid (Below w.heap.size w wr) ∧ w0.heap.size ≤ wr.heap.size) (fun _ i _ => all.length - (intOf i).toNat)
  case atStart => exact ⟨0, Nat.zero_le _, rfl, HX_1, HA_1, HB_1, hz1⟩
  case round =>
    clear HX_1 HA_1 HB_1 hz1
    obtain ⟨k, hk, rfl, HX_2, HA_2, HB_2, hz2⟩ := hrel
    by_cases hlt : k < all.length
    · have HS_2 := Lib.hid (si_of_own HA_2.out HRG.out)
      obtain ⟨b, o, hA, hbb, x1_2⟩ := HS_2.out.at_ hlt
      subst hA
      have hsl := HS_2.out.max
      have hsc := HS_2.out.cap
      unfold maxLen at hsl
      obtain ⟨t, ht, ht4⟩ := HIN.out _ (List.getElem_mem hlt)
      have HSN := Lib.hid (armsA_snoc (m := m) (all := all) (list := list) hlt)
      have ho64 := HOT.out _ (List.getElem_mem hlt)
      rw [ht] at HSN ho64 x1_2
      have HTA := Lib.hid ht
      clear ht
      have HOE : Hid (othersOf m (t : Int) = partsTo (nl m t) (nl m t + 1)) := Lib.hid (by unfold othersOf; rw [Int.toNat_natCast])
      have hnl := nl_le m t
      have hlk := HLEN.out k
      have hi1 : (k : Int) < (all.length : Int) := by omega
      have hi0 : (0 : Int) ≤ (k : Int) := by omega
      obtain ⟨AX, cX, hvx⟩ := own_form HX_2.out
      subst hvx
      obtain ⟨w2, hwn⟩ : ∃ W : World, W = wr := ⟨_, rfl⟩
      subst hwn
      generalize hrs : armsA m all list (all.take k) = rs at *
      have HRS := Lib.hid hrs
      clear hrs
      go_wp2_with (go_at_call 68; refine (less_any m t _ hm ht4 rfl).mono ?_; rintro e w3 ⟨rfl, rfl⟩)
      refine (partsIn_any (nl m t) _ (by omega)).mono ?_
      rintro e w3 ⟨Ao, co, rfl, hoo, hb⟩
      rw [← HOE.out] at hoo ⊢
      have HIO : Hid (∀ x ∈ othersOf m (t : Int), ∃ u : Nat, x = (u : Int) ∧ u < 4096) := Lib.hid (fun x hx => by rw [HOE.out] at hx; obtain ⟨u, e1, h1, _⟩ := partsG_mem hx; exact ⟨u, e1, by omega⟩)
      generalize othersOf m (t : Int) = os at *
      have HRO : Hid (∀ x ∈ os, -9223372036854775808 ≤ x ∧ x ≤ 9223372036854775807) := Lib.hid (fun x hx => by obtain ⟨t, e1, h1⟩ := HIO.out x hx; omega)
      have HO_3 := Lib.hid hoo
      have HX_3 := Lib.hid (own_below HX_2.out hb)
      have HA_3 := Lib.hid (own_below HA_2.out hb)
      have HB_3 : Hid (Below w.heap.size w w3) := Lib.hid (HB_2.out.trans (hb.mono HB_2.out.size))
      have hz3 : w0.heap.size ≤ w3.heap.size := by have := hb.size; omega
      have hw2 : w0.heap.size ≤ w2.heap.size := hz2
      clear hoo hb HX_2 HA_2 HB_2 HS_2 x1_2 hz2
      go_wp2
      go_loopw [5, 9] (fun v i wr => ∃ j : Nat, j ≤ os.length ∧ i = .int .i64 j ∧ Hid (wr.ownsRow w.heap.size 72 2 v (rs ++ rowA all list (t : Int) (os.take j)).length (flatA (rs ++ rowA all list (t : Int) (os.take j)))) ∧ Hid (wr.ownsRow w0.heap.size 3 1 (.slice (some ⟨b, o, none⟩) all.length cl) all.length (flatI all)) ∧ Hid (wr.ownsRow w2.heap.size 3 1 (.slice Ao os.length co) os.length (flatI os)) ∧ Hid (Below w.heap.size w wr) ∧ w0.heap.size ≤ wr.heap.size) (fun _ i _ => os.length - (intOf i).toNat)
      case atStart => exact ⟨0, Nat.zero_le _, rfl, Lib.hid (by simpa [rowA] using HX_3.out), HA_3, HO_3, HB_3, hz3⟩
      case round =>
        clear HX_3 HA_3 HO_3 HB_3 hz3
        obtain ⟨j, hj, rfl, HX_4, HA_4, HO_4, HB_4, hz4⟩ := hrel
        by_cases hlj : j < os.length
        · obtain ⟨AY, cY, hvy⟩ := own_form HX_4.out
          subst hvy
          have HS_4 := Lib.hid (si_of_own HA_4.out HRG.out)
          have HT_4 := Lib.hid (si_of_own HO_4.out HRO.out)
          obtain ⟨b1, o1, hA, hbb1, x1_4⟩ := HS_4.out.at_ hlt
          injection hA with hA
          injection hA with e1 e2
          subst e1 e2
          rw [HTA.out] at x1_4
          obtain ⟨b2, o2, hA, hbb2, x2_4⟩ := HT_4.out.at_ hlj
          subst hA
          obtain ⟨u, hu, hu4⟩ := HIO.out _ (List.getElem_mem hlj)
          have HRW : Hid (rs ++ rowA all list (t : Int) (os.take (j + 1)) = rs ++ rowA all list (t : Int) (os.take j) ++ if okIn all list t u then [⟨t, u⟩] else []) := Lib.hid (by have h := rowA_snoc (all := all) (list := list) (p := (t : Int)) hlj; rw [hu, Int.toNat_natCast, Int.toNat_natCast] at h; rw [h, List.append_assoc])
          rw [hu] at x2_4
          have HUA := Lib.hid hu
          clear hu
          have hrl := rowA_len all list (os.take j) (t : Int)
          have htl : (os.take j).length ≤ j := by rw [List.length_take]; omega
          have hrn : (rs ++ rowA all list (t : Int) (os.take j)).length ≤ 2000000 := by rw [List.length_append]; omega
          clear hrl htl
          generalize hrt : rs ++ rowA all list (t : Int) (os.take j) = rt at *
          have HRT := Lib.hid hrt
          clear hrt
          have hj1 : (j : Int) < (os.length : Int) := by omega
          have hj0 : (0 : Int) ≤ (j : Int) := by omega
          have hsl2 := HT_4.out.max
          have hsc2 := HT_4.out.cap
          unfold maxLen at hsl2
          obtain ⟨w4, hwn⟩ : ∃ W : World, W = wr := ⟨_, rfl⟩
          subst hwn
          clear HS_4 HT_4
          go_upto_region 10 with fail
          refine wp_region_held_drew (S := fun w' => w'.cell? ⟨b, o + k, none⟩ = some (.int .i64 t) ∧ w'.cell? ⟨b2, o2 + j, none⟩ = some (.int .i64 u)) (by kernel_rfl) ⟨x1_4, x2_4⟩ (fun hHeld => ?_)
          generalize hwd : w4.drew = w5 at hHeld ⊢
          have hb : Below w4.heap.size w4 w5 := by rw [← hwd]; exact (Below.refl _ _).drew
          have x1_5 := keep1 hb x1_4
          have x2_5 := keep1 hb x2_4
          have HX_5 := Lib.hid (own_below HX_4.out hb)
          have HA_5 := Lib.hid (own_below HA_4.out hb)
          have HO_5 := Lib.hid (own_below HO_4.out hb)
          have HB_5 : Hid (Below w.heap.size w w5) := Lib.hid (HB_4.out.trans (hb.mono HB_4.out.size))
          have hz5 : w0.heap.size ≤ w5.heap.size := by have := hb.size; omega
          clear x1_4 x2_4 HX_4 HA_4 HO_4 HB_4 hz4
          clear hb hwd
          refine wpAnyH_take (i := 0) (v := ?_) rfl (by kernel_rfl) (by kernel_rfl) (by kernel_rfl) (fun _ _ _ h => h) (Or.inl ⟨by kernel_rfl, ?_⟩) hHeld ?_
          rotate_left
          · intro wz hSw
            try dsimp only at hSw
            first
            | (go_simp; done)
            | (go_simp; with_reducible rfl)
          try simp only [Act.put, List.setIfInBounds_toArray, List.set_cons_zero, List.set_cons_succ]
          refine wpAnyH_take (i := 1) (v := ?_) rfl (by kernel_rfl) (by kernel_rfl) (by kernel_rfl) (fun _ _ _ h => h) (Or.inl ⟨by kernel_rfl, ?_⟩) hHeld ?_
          rotate_left
          · intro wz hSw
            try dsimp only at hSw
            first
            | (go_simp; done)
            | (go_simp; with_reducible rfl)
          try simp only [Act.put, List.setIfInBounds_toArray, List.set_cons_zero, List.set_cons_succ]
          refine wpAnyH_take (i := 2) (v := ?_) rfl (by kernel_rfl) (by kernel_rfl) (by kernel_rfl) (fun _ _ _ h => h) (Or.inl ⟨by kernel_rfl, ?_⟩) hHeld ?_
          rotate_left
          · intro wz hSw
            try dsimp only at hSw
            first
            | (go_simp; done)
            | (go_simp; with_reducible rfl)
          try simp only [Act.put, List.setIfInBounds_toArray, List.set_cons_zero, List.set_cons_succ]
          refine wpAnyH_take (i := 3) (v := ?_) rfl (by kernel_rfl) (by kernel_rfl) (by kernel_rfl) (fun _ _ _ h => h) (Or.inl ⟨by kernel_rfl, ?_⟩) hHeld ?_
          rotate_left
          · intro wz hSw
            try dsimp only at hSw
            first
            | (go_simp; done)
            | (go_simp; with_reducible rfl)
          try simp only [Act.put, List.setIfInBounds_toArray, List.set_cons_zero, List.set_cons_succ]
          refine wpAnyH_take (i := 4) (v := ?_) rfl (by kernel_rfl) (by kernel_rfl) (by kernel_rfl) (fun _ _ _ h => h) (Or.inl ⟨by kernel_rfl, ?_⟩) hHeld ?_
          rotate_left
          · intro wz hSw
            try dsimp only at hSw
            first
            | (go_simp; done)
            | (go_simp; with_reducible rfl)
          try simp only [Act.put, List.setIfInBounds_toArray, List.set_cons_zero, List.set_cons_succ]
          refine wpAnyH_take (i := 5) (v := ?_) rfl (by kernel_rfl) (by kernel_rfl) (by kernel_rfl) (fun _ _ _ h => h) (Or.inl ⟨by kernel_rfl, ?_⟩) hHeld ?_
          rotate_left
          · intro wz hSw
            try dsimp only at hSw
            first
            | (go_simp; done)
            | (go_simp; with_reducible rfl)
          try simp only [Act.put, List.setIfInBounds_toArray, List.set_cons_zero, List.set_cons_succ]
          refine wpAnyH_take (i := 6) (v := ?_) rfl (by kernel_rfl) (by kernel_rfl) (by kernel_rfl) (fun _ _ _ h => h) (Or.inl ⟨by kernel_rfl, ?_⟩) hHeld ?_
          rotate_left
          · intro wz hSw
            try dsimp only at hSw
            first
            | (go_simp; done)
            | (go_simp; with_reducible rfl)
          try simp only [Act.put, List.setIfInBounds_toArray, List.set_cons_zero, List.set_cons_succ]
          refine wpAnyH_take (i := 7) (v := ?_) rfl (by kernel_rfl) (by kernel_rfl) (by kernel_rfl) (fun _ _ _ h => h) (Or.inl ⟨by kernel_rfl, ?_⟩) hHeld ?_
          rotate_left
          · intro wz hSw
            try dsimp only at hSw
            first
            | (go_simp; done)
            | (go_simp; with_reducible rfl)
          try simp only [Act.put, List.setIfInBounds_toArray, List.set_cons_zero, List.set_cons_succ]
          refine wpAnyH_take (i := 8) (v := ?_) rfl (by kernel_rfl) (by kernel_rfl) (by kernel_rfl) (fun _ _ _ h => h) (Or.inl ⟨by kernel_rfl, ?_⟩) hHeld ?_
          rotate_left
          · intro wz hSw
            try dsimp only at hSw
            first
            | (go_simp; done)
            | (go_simp; with_reducible rfl)
          try simp only [Act.put, List.setIfInBounds_toArray, List.set_cons_zero, List.set_cons_succ]
          refine wpAnyH_ready (rs := [9]) (by kernel_rfl) (by simp) ?_
          refine AllReadyH.cons rfl (fun K hK => ?_) AllReadyH.nil
          go_simp
          refine hK.out _ _ ⟨keep1 ((Below.refl _ _).alloc (Nat.le_refl _) _) x1_5, keep1 ((Below.refl _ _).alloc (Nat.le_refl _) _) x2_5⟩ (fun hHeld => ?_)
          clear hK K
          try simp only [Act.put, List.setIfInBounds_toArray, List.set_cons_zero, List.set_cons_succ]
          obtain ⟨G, hG⟩ : ∃ g, w5.heap.size = g := ⟨_, rfl⟩
          generalize hw9 : (World.alloc _ _) = w6 at hHeld ⊢
          have hb : Below w5.heap.size w5 w6 := by rw [← hw9]; exact (Below.refl _ _).alloc (Nat.le_refl _) _
          have bx0_6 : w6.cell? ⟨w5.heap.size, 0, none⟩ = some (.int .i64 0) := by rw [← hw9]; simp [go_sem]
          have bf0_6 : w6.frozen? ⟨w5.heap.size, 0, none⟩ = false := by rw [← hw9]; simp [go_sem]
          have bx1_6 : w6.cell? ⟨w5.heap.size, 1, none⟩ = some (.int .i64 0) := by rw [← hw9]; simp [go_sem]
          have bf1_6 : w6.frozen? ⟨w5.heap.size, 1, none⟩ = false := by rw [← hw9]; simp [go_sem]
          have hs6 : w6.heap.size = w5.heap.size + 1 := by rw [← hw9]; simp
          have x1_6 := keep1 hb x1_5
          have x2_6 := keep1 hb x2_5
          have HX_6 := Lib.hid (own_below HX_5.out hb)
          have HA_6 := Lib.hid (own_below HA_5.out hb)
          have HO_6 := Lib.hid (own_below HO_5.out hb)
          have HB_6 : Hid (Below w.heap.size w w6) := Lib.hid (HB_5.out.trans (hb.mono HB_5.out.size))
          have HGX : Hid (∀ g, (Value.slice AY rt.length cY).ownBlock = some g → g < w5.heap.size) := Lib.hid (fun g hg => (HX_5.out.lt g hg).2)
          have HGA : Hid (∀ g, (Value.slice (some ⟨b, o, none⟩) all.length cl).ownBlock = some g → g < w5.heap.size) := Lib.hid (fun g hg => (HA_5.out.lt g hg).2)
          have HGO : Hid (∀ g, (Value.slice (some ⟨b2, o2, none⟩) os.length co).ownBlock = some g → g < w5.heap.size) := Lib.hid (fun g hg => (HO_5.out.lt g hg).2)
          have hwz : w.heap.size ≤ w5.heap.size := HB_5.out.size
          have hbw : b < w5.heap.size := World.block_lt_of_cell? _ _ x1_5
          have hb2w : b2 < w5.heap.size := World.block_lt_of_cell? _ _ x2_5
          clear hb hw9 x1_5 x2_5 HX_5 HA_5 HO_5 HB_5
          rw [hG] at bx0_6 bf0_6 bx1_6 bf1_6 hs6 HGX HGA HGO hwz hbw hb2w hz5
          try rw [hG]
          try simp only [hG]
          refine wpAnyH_ready (rs := [10]) (by kernel_rfl) (by simp) ?_
          refine AllReadyH.cons rfl (fun K hK => ?_) AllReadyH.nil
          try rw [hG]
          go_simp
          obtain ⟨w7, hw⟩ : ∃ W : World, W = ((w6.setCell ⟨G, 0, none⟩ (.int .i64 t)).setCell ⟨G, 1, none⟩ (.int .i64 u)) := ⟨_, rfl⟩
          have ob : ∀ {p : Addr}, p.block ≠ G → w7.cell? p = w6.cell? p := fun {p} hp => by rw [hw]; exact (World.cell?_setCell_other _ _ _ _ (fun e => by subst e; exact hp rfl)).trans (World.cell?_setCell_other _ _ _ _ (fun e => by subst e; exact hp rfl))
          have x1_7 : w7.cell? ⟨b, o + k, none⟩ = some (.int .i64 t) := (ob (by show b ≠ G; omega)).trans x1_6
          have x2_7 : w7.cell? ⟨b2, o2 + j, none⟩ = some (.int .i64 u) := (ob (by show b2 ≠ G; omega)).trans x2_6
          have e0_7 : w7.cell? ⟨G, 0, none⟩ = some (.int .i64 t) := by rw [hw]; exact (World.cell?_setCell_other _ _ _ _ (by intro e; injection e with _ e2; cases e2)).trans (World.cell?_setCell_same' _ _ _ (by rw [bx0_6]; rfl))
          have e1_7 : w7.cell? ⟨G, 1, none⟩ = some (.int .i64 u) := by rw [hw]; exact World.cell?_setCell_same' _ _ _ (by rw [World.cell?_setCell_other _ _ _ _ (by intro e; injection e with _ e2; cases e2), bx1_6]; rfl)
          have HX_7 := Lib.hid (show w7.ownsRow _ _ _ _ _ _ by rw [hw]; exact own_setCell (own_setCell HX_6.out (fun e => by have := HGX.out _ e; simp only at this; omega) _) (fun e => by have := HGX.out _ e; simp only at this; omega) _)
          have HA_7 := Lib.hid (show w7.ownsRow _ _ _ _ _ _ by rw [hw]; exact own_setCell (own_setCell HA_6.out (fun e => by have := HGA.out _ e; simp only at this; omega) _) (fun e => by have := HGA.out _ e; simp only at this; omega) _)
          have HO_7 := Lib.hid (show w7.ownsRow _ _ _ _ _ _ by rw [hw]; exact own_setCell (own_setCell HO_6.out (fun e => by have := HGO.out _ e; simp only at this; omega) _) (fun e => by have := HGO.out _ e; simp only at this; omega) _)
          have HB_7 : Hid (Below w.heap.size w w7) := Lib.hid (by rw [hw]; exact (HB_6.out.setCell (by show w.heap.size ≤ G; omega) _).setCell (by show w.heap.size ≤ G; omega) _)
          have hs7 : w7.heap.size = G + 1 := by rw [hw]; simpa using hs6
          have HW7 : Hid (((w6.setCell ⟨G, 0, none⟩ (.int .i64 t)).setCell ⟨G, 1, none⟩ (.int .i64 u)) = w7) := Lib.hid hw.symm
          clear hw ob x1_6 x2_6 bx0_6 bf0_6 bx1_6 bf1_6 HX_6 HA_6 HO_6 HB_6 HGX HGA HGO
          try rw [HW7.out]
          refine hK.out _ _ ⟨x1_7, x2_7⟩ (fun hHeld => ?_)
          clear hK K
          try simp only [Act.put, List.setIfInBounds_toArray, List.set_cons_zero, List.set_cons_succ]
          refine wpAnyH_done (by kernel_rfl) ?_ _
          try go_simp
          obtain ⟨ok, hok⟩ : ∃ v, okIn all list t u = v := ⟨_, rfl⟩
          have HOK := Lib.hid hok
          rw [hok] at HRW
          clear hok
          have HS_7 := Lib.hid (si_of_own HA_7.out HRG.out)
          go_wp2_with fail
          refine (allIn_v all list t u _ _ _ _ _ _ _ HS_7.out ((HL.out.below HB_7.out).call HB_7.out.size) HIN.out ht4 hu4 HOK.out).mono ?_
          rintro e w8 ⟨rfl, hb⟩
          have e0_8 := keep1 hb e0_7
          have e1_8 := keep1 hb e1_7
          have HX_8 := Lib.hid (own_below HX_7.out hb)
          have HA_8 := Lib.hid (own_below HA_7.out hb)
          have HO_8 := Lib.hid (own_below HO_7.out hb)
          have HB_8 : Hid (Below w.heap.size w w8) := Lib.hid (HB_7.out.trans (hb.mono HB_7.out.size))
          have hz8 : w0.heap.size ≤ w8.heap.size := by have := hb.size; omega
          clear hb e0_7 e1_7 x1_7 x2_7 HX_7 HA_7 HO_7 HB_7 HS_7
          cases ok
          · have HE : Hid (rs ++ rowA all list (t : Int) (os.take (j + 1)) = rt) := Lib.hid (by rw [HRW.out]; simp)
            go_wp2
            go_roundw
            case rel => exact ⟨j + 1, by omega, by go_num, Lib.hid (by rw [HE.out]; exact HX_8.out), HA_8, HO_8, HB_8, hz8⟩
            case measure => simp [intOf]; omega
          · have HE : Hid (rs ++ rowA all list (t : Int) (os.take (j + 1)) = rt ++ [⟨t, u⟩]) := Lib.hid (by rw [HRW.out]; simp)
            go_wp2_with (at_builtin; refine wpList_app_Ag rfl _ _ rfl _ _ _ _ rfl HX_8.out _ _ _ _ rfl (by first | rfl | simp) hrn HB_8.out.size ?_; intro v' w9 ho hb hg; have HX_9 := Lib.hid ho; have HB_9 : Hid (Below w.heap.size w w9) := Lib.hid (HB_8.out.trans hb); have HA_9 := Lib.hid (HA_8.out.kept hg (own_ne_type HA_8.out HX_8.out (by decide))); have HO_9 := Lib.hid (HO_8.out.kept hg (own_ne_type HO_8.out HX_8.out (by decide))); have hz9 : w0.heap.size ≤ w9.heap.size := (by have := hg.size; omega); clear ho hb hg)
            go_roundw
            case rel => exact ⟨j + 1, by omega, by go_num, Lib.hid (by rw [HE.out]; have h := HX_9.out; rw [List.length_append (bs := [(⟨t, u⟩ : Ar)])]; simpa [flatA, encA] using h), HA_9, HO_9, HB_9, hz9⟩
            case measure => simp [intOf]; omega
        · obtain rfl : j = os.length := by omega
          have HE : Hid (armsA m all list (all.take (k + 1)) = rs ++ rowA all list (t : Int) (os.take os.length)) := Lib.hid (by rw [HSN.out, List.take_of_length_le (Nat.le_refl _)])
          have hj9 : ¬ (os.length : Int) < (os.length : Int) := by omega
          go_wp2
          go_roundw
          case rel => exact ⟨k + 1, by omega, by go_num, Lib.hid (by rw [HE.out]; exact HX_4.out), HA_4, HB_4, hz4⟩
          case measure => simp [intOf]; omega
    · obtain rfl : k = all.length := by omega
      obtain ⟨AX, cX, hvx⟩ := own_form HX_2.out
      subst hvx
      have HE : Hid (all.take all.length = all) := Lib.hid (List.take_of_length_le (Nat.le_refl _))
      rw [HE.out] at HX_2 ⊢
      have hk9 : ¬ (all.length : Int) < (all.length : Int) := by omega
      go_wp2
      go_ret
      rw [HMM.out]
      exact ⟨AX, cX, rfl, HX_2.out, HB_2.out⟩
end Go.Proofs.Ytpmanbmhbfnefaa

namespace Go.Proofs.Ytpmanbmhbfnefaa
open Go.RowKit Go.Maps
set_option linter.unusedVariables false
set_option linter.unusedSimpArgs false
set_option maxRecDepth 100000

/-! ### the program's row of all arms: a box of 4096 bools -/
structure BX (w : World) (g : Nat) (F : Nat → Bool) : Prop where
  c : ∀ j, j < 4096 → w.cell? ⟨g, j, none⟩ = some (.bool (F j))
  lt : g < w.heap.size
theorem BX.low {w w' : World} {g B : Nat} {F : Nat → Bool} (h : BX w g F) (hb : Below B w w') (hg : g < B) : BX w' g F :=
  ⟨fun j hj => (hb.cell (p := ⟨g, j, none⟩) hg).trans (h.c j hj), Nat.lt_of_lt_of_le h.lt hb.size⟩
theorem BX.below {w w' : World} {g : Nat} {F : Nat → Bool} (h : BX w g F) (hb : Below w.heap.size w w') : BX w' g F := h.low hb h.lt
theorem bx_new (w : World) (wv : Array Value) (t : TypeId) (F : Nat → Bool) (h : ∀ j, j < 4096 → wv[j]? = some (.bool (F j))) : BX (w.alloc (.cells wv t)) w.heap.size F := by
  refine ⟨fun j hj => ?_, by simp⟩
  have := h j hj
  simp [go_sem, this]
theorem flatW_snoc {all list : List Int} {k : Nat} (hk : k < all.length) : ((all.take (k + 1)).flatMap fun p => rowW all list p all) = ((all.take k).flatMap fun p => rowW all list p all) ++ rowW all list all[k] all := by
  rw [List.take_succ_eq_append_getElem hk, List.flatMap_append]
  simp only [List.flatMap_cons, List.flatMap_nil, List.append_nil]
theorem rowW_len (all list qs : List Int) (p : Int) : (rowW all list p qs).length ≤ qs.length := by
  unfold rowW
  rw [List.length_map]
  exact List.length_filter_le _ _
theorem flatW_len {all list : List Int} : ∀ ps : List Int, (ps.flatMap fun p => rowW all list p all).length ≤ ps.length * all.length
  | [] => by simp
  | p :: ps => by
    have h1 := flatW_len (all := all) (list := list) ps
    have h2 := rowW_len all list all p
    rw [List.flatMap_cons, List.length_append, List.length_cons, Nat.succ_mul]
    omega

set_option maxHeartbeats 16000000 in
theorem armsWithin_any (all list : List Int) (A : Option Addr) (n c : Nat) (wv : Array Value) (F : Nat → Bool) (w : World) (ha : SI w w.heap.size A n c all) (hin : ∀ x ∈ all, ∃ t : Nat, x = (t : Int) ∧ t < 4096) (h64 : all.length ≤ 64) (hwv : ∀ j, j < 4096 → wv[j]? = some (.bool (F j))) (hF : ∀ t : Nat, t < 4096 → F t = list.any fun y => decide (y = (t : Int))) {rs : List Ar} (hrs : (all.flatMap fun p => rowW all list p all) = rs) :
    Calls Try.prog 74 #[.slice A n c, .agg wv] w (ArmsP rs w) := by
  obtain rfl := ha.len
  have hl := ha.max
  have hl2 := ha.cap
  unfold maxLen at hl
  obtain ⟨w0, hw⟩ : ∃ W : World, W = (w.alloc (.cells wv 114)) := ⟨_, rfl⟩
  have hb0 : Below w.heap.size w w0 := by rw [hw]; exact (Below.refl _ _).alloc (Nat.le_refl _) _
  have HX_0 : Hid (BX w0 w.heap.size F) := Lib.hid (by rw [hw]; exact bx_new w wv _ F hwv)
  have HA_0 : Hid (SI w0 w.heap.size A all.length c all) := Lib.hid (ha.below hb0)
  have HB_0 := Lib.hid hb0
  have HR_0 : Hid (w0.ownsRow (w.heap.size + 1) 72 2 (.slice none 0 0) ((all.take 0).flatMap fun p => rowW all list p all).length (flatA ((all.take 0).flatMap fun p => rowW all list p all))) := Lib.hid (World.ownsRow_nil _ _ _ _)
  have HIN := Lib.hid hin
  have HFF := Lib.hid hF
  have HRS := Lib.hid hrs
  have HW0 : Hid ((w.alloc (.cells wv 114)) = w0) := Lib.hid hw.symm
  clear ha hin hF hrs hw hb0 hwv
  go_enter Try.func74, Try.ntmps74
  go_wp2
  rw [HW0.out]
  clear HW0
  go_loopg [5, 15] all.length (fun g v i wr => ∃ k : Nat, k + g = all.length ∧ i = .int .i64 k ∧ Hid (wr.ownsRow (w.heap.size + 1) 72 2 v ((all.take k).flatMap fun p => rowW all list p all).length (flatA ((all.take k).flatMap fun p => rowW all list p all))) ∧ Hid (BX wr w.heap.size F) ∧ Hid (SI wr w.heap.size A all.length c all) ∧ Hid (Below w.heap.size w wr))
  case atStart => exact ⟨0, by omega, rfl, HR_0, HX_0, HA_0, HB_0⟩
  case round =>
    clear HR_0 HX_0 HA_0 HB_0
    obtain ⟨k, hkg, rfl, HR_1, HX_1, HA_1, HB_1⟩ := hrel
    cases gk with
    | zero =>
      obtain rfl : k = all.length := by omega
      have hk9 : ¬ (all.length : Int) < (all.length : Int) := by omega
      have HE : Hid (all.take all.length = all) := Lib.hid (List.take_of_length_le (Nat.le_refl _))
      rw [HE.out, HRS.out] at HR_1
      obtain ⟨AX, cX, hvx⟩ := own_form HR_1.out
      subst hvx
      go_wp2
      go_ret
      exact ⟨AX, cX, rfl, own_base HR_1.out (by omega), HB_1.out⟩
    | succ g =>
      have hlt : k < all.length := by omega
      have hi1 : (k : Int) < (all.length : Int) := by omega
      have hi0 : (0 : Int) ≤ (k : Int) := by omega
      obtain ⟨b, o, hA, hbb, x1_1⟩ := HA_1.out.at_ hlt
      subst hA
      obtain ⟨t, ht, ht4⟩ := HIN.out _ (List.getElem_mem hlt)
      have HSN := Lib.hid (flatW_snoc (all := all) (list := list) hlt)
      rw [ht] at HSN x1_1
      have HTA := Lib.hid ht
      clear ht
      have hlk : ((all.take k).flatMap fun p => rowW all list p all).length ≤ 4096 := by
        have h1 := flatW_len (all := all) (list := list) (all.take k)
        have h2 : (all.take k).length ≤ 64 := by rw [List.length_take]; omega
        have h3 := Nat.mul_le_mul h2 h64
        omega
      obtain ⟨AX, cX, hvx⟩ := own_form HR_1.out
      subst hvx
      generalize hrs : ((all.take k).flatMap fun p => rowW all list p all) = r1 at *
      have HR1 := Lib.hid hrs
      clear hrs
      go_wp2
      go_step3
      go_wp2
      go_step3
      go_wp2
      rename World => wo
      have HR_2 : Hid (wo.ownsRow (w.heap.size + 1) 72 2 (.slice AX r1.length cX) (r1 ++ rowW all list (t : Int) (all.take 0)).length (flatA (r1 ++ rowW all list (t : Int) (all.take 0)))) := Lib.hid (by simpa [rowW] using HR_1.out)
      clear HR_1
      go_loopg [5, 21] all.length (fun g2 v i wx => ∃ j : Nat, j + g2 = all.length ∧ i = .int .i64 j ∧ Hid (wx.ownsRow (w.heap.size + 1) 72 2 v (r1 ++ rowW all list (t : Int) (all.take j)).length (flatA (r1 ++ rowW all list (t : Int) (all.take j)))) ∧ Hid (BX wx w.heap.size F) ∧ Hid (SI wx w.heap.size (some ⟨b, o, none⟩) all.length c all) ∧ Hid (Below w.heap.size w wx))
      case atStart => exact ⟨0, by omega, rfl, HR_2, HX_1, HA_1, HB_1⟩
      case round =>
        clear HR_2 HX_1 HA_1 HB_1
        obtain ⟨j, hjg, rfl, HR_3, HX_3, HA_3, HB_3⟩ := hrel
        cases gk with
        | zero =>
          obtain rfl : j = all.length := by omega
          have hk9 : ¬ (all.length : Int) < (all.length : Int) := by omega
          have HE : Hid (all.take all.length = all) := Lib.hid (List.take_of_length_le (Nat.le_refl _))
          rw [HE.out] at HR_3
          obtain ⟨AY, cY, hvy⟩ := own_form HR_3.out
          subst hvy
          generalize hrs : r1 ++ rowW all list (t : Int) all = r2 at *
          have HR2 := Lib.hid hrs
          clear hrs
          go_wp2
          go_roundg g
          case measure => omega
          case rel => exact ⟨k + 1, by omega, by go_num, Lib.hid (by rw [HSN.out]; exact HR_3.out), HX_3, HA_3, HB_3⟩
        | succ g2 =>
          have hlj : j < all.length := by omega
          have hj1 : (j : Int) < (all.length : Int) := by omega
          have hj0 : (0 : Int) ≤ (j : Int) := by omega
          obtain ⟨b1, o1, hA, hbb1, x1_3⟩ := HA_3.out.at_ hlj
          injection hA with hA
          injection hA with e1 e2
          subst e1 e2
          obtain ⟨u, hu, hu4⟩ := HIN.out _ (List.getElem_mem hlj)
          have HSN2 : Hid (r1 ++ rowW all list (t : Int) (all.take (j + 1)) = r1 ++ rowW all list (t : Int) (all.take j) ++ if decide (t &&& u = 0) && okIn all list t u then [⟨t, u⟩] else []) := Lib.hid (by have h := rowW_snoc (all := all) (list := list) (p := (t : Int)) hlj; rw [hu, Int.toNat_natCast, Int.toNat_natCast] at h; rw [h, List.append_assoc])
          rw [hu] at x1_3
          have HUA := Lib.hid hu
          clear hu
          have hrn : (r1 ++ rowW all list (t : Int) (all.take j)).length ≤ 2000000 := by
            have h1 := rowW_len all list (all.take j) (t : Int)
            have h2 : (all.take j).length ≤ 64 := by rw [List.length_take]; omega
            rw [List.length_append]; omega
          obtain ⟨AY, cY, hvy⟩ := own_form HR_3.out
          subst hvy
          generalize hrs : r1 ++ rowW all list (t : Int) (all.take j) = r2 at *
          have HR2 := Lib.hid hrs
          clear hrs
          have hand := i64_and_nat t u (by omega) (by omega)
          obtain ⟨r, hr⟩ : ∃ r, t &&& u = r := ⟨_, rfl⟩
          rw [hr] at hand HSN2
          have HRR := Lib.hid hr
          clear hr
          by_cases h0 : r = 0
          case neg =>
            have HS : Hid (r1 ++ rowW all list (t : Int) (all.take (j + 1)) = r2) := Lib.hid (by rw [HSN2.out, decide_eq_false h0, Bool.false_and, if_neg (by decide), List.append_nil])
            have h0i : ¬ (r : Int) = 0 := by omega
            have h0e : ((r : Int) == 0) = false := by rw [beq_eq_false_iff_ne]; omega
            go_wp2
            go_roundg g2
            case measure => omega
            case rel => exact ⟨j + 1, by omega, by go_num, Lib.hid (by rw [HS.out]; exact HR_3.out), HX_3, HA_3, HB_3⟩
          subst h0
          rw [decide_eq_true rfl, Bool.true_and] at HSN2
          go_wp2
          obtain ⟨w4, hw4⟩ : ∃ W : World, W = (wr.alloc (.cells #[.int .i64 t, .int .i64 u] 72)) := ⟨_, rfl⟩
          have hb4 : Below wr.heap.size wr w4 := by rw [hw4]; exact (Below.refl _ _).alloc (Nat.le_refl _) _
          obtain ⟨G, hG⟩ : ∃ G, wr.heap.size = G := ⟨_, rfl⟩
          have HD_4 : Hid (C2 w4 G (.int .i64 t) (.int .i64 u)) := Lib.hid (by rw [hw4, ← hG]; exact c2New _ _ _ _)
          have hgw : w.heap.size + 1 ≤ G := by rw [← hG]; exact HX_3.out.lt
          have HR_4 := Lib.hid (own_below HR_3.out hb4)
          have HX_4 := Lib.hid (HX_3.out.below hb4)
          have HA_4 : Hid (SI w4 w.heap.size (some ⟨b, o, none⟩) all.length c all) := Lib.hid (HA_3.out.below' hb4 HB_3.out.size)
          have HB_4 : Hid (Below w.heap.size w w4) := Lib.hid (HB_3.out.trans (hb4.mono HB_3.out.size))
          have HW4 : Hid ((wr.alloc (.cells #[.int .i64 t, .int .i64 u] 72)) = w4) := Lib.hid hw4.symm
          rw [HW4.out, hG]
          clear hw4 hb4 hG HW4 HR_3 HX_3 HA_3 HB_3 x1_1 x1_3
          rename World => wp
          go_loopg [34] all.length (fun g3 i wx => ∃ l : Nat, l + g3 = all.length ∧ i = .int .i64 l ∧ Hid (okIn (all.take l) list t u = true) ∧ Hid (C2 wx G (.int .i64 t) (.int .i64 u)) ∧ Hid (wx.ownsRow (w.heap.size + 1) 72 2 (.slice AY r2.length cY) r2.length (flatA r2)) ∧ Hid (BX wx w.heap.size F) ∧ Hid (SI wx w.heap.size (some ⟨b, o, none⟩) all.length c all) ∧ Hid (Below w.heap.size w wx))
          case atStart => exact ⟨0, by omega, rfl, Lib.hid rfl, HD_4, HR_4, HX_4, HA_4, HB_4⟩
          case round =>
            clear HD_4 HR_4 HX_4 HA_4 HB_4
            obtain ⟨l, hlg, rfl, HOK, HD_5, HR_5, HX_5, HA_5, HB_5⟩ := hrel
            cases gk with
            | zero =>
              obtain rfl : l = all.length := by omega
              have hk9 : ¬ (all.length : Int) < (all.length : Int) := by omega
              have HE : Hid (all.take all.length = all) := Lib.hid (List.take_of_length_le (Nat.le_refl _))
              rw [HE.out] at HOK
              have HS : Hid (r1 ++ rowW all list (t : Int) (all.take (j + 1)) = r2 ++ [⟨t, u⟩]) := Lib.hid (by rw [HSN2.out, HOK.out, if_pos rfl])
              have c0 := HD_5.out.c0
              have c1 := HD_5.out.c1
              go_wp2_with (at_builtin; refine wpList_app_Ag rfl _ _ rfl _ _ _ _ rfl HR_5.out _ _ _ _ rfl (by first | rfl | simp) hrn (by have := HX_5.out.lt; omega) ?_; intro v' w6 ho1 hb1 _; have HO1 := Lib.hid ho1; have HB6 := Lib.hid hb1; clear ho1 hb1)
              go_roundg g2
              case measure => omega
              case rel => exact ⟨j + 1, by omega, by go_num, Lib.hid (by rw [HS.out, List.length_append, flatA_app]; exact HO1.out), Lib.hid (HX_5.out.low HB6.out (by omega)), Lib.hid (HA_5.out.below' HB6.out (by omega)), Lib.hid (HB_5.out.trans (HB6.out.mono (by omega)))⟩
            | succ g3 =>
              have hll : l < all.length := by omega
              have hl1 : (l : Int) < (all.length : Int) := by omega
              have hl0 : (0 : Int) ≤ (l : Int) := by omega
              obtain ⟨b1, o1, hA, hbb1, x1_5⟩ := HA_5.out.at_ hll
              injection hA with hA
              injection hA with e1 e2
              subst e1 e2
              obtain ⟨x, hx, hx4⟩ := HIN.out _ (List.getElem_mem hll)
              have HN := Lib.hid (okIn_snoc (list := list) (p := t) (q := u) hll)
              have HNO : Hid ((!matchN t u all[l].toNat || list.any fun y => decide (y = all[l])) = false → okIn all list t u = false) := Lib.hid (okIn_no hll)
              rw [hx] at HN HNO x1_5
              rw [Int.toNat_natCast] at HN HNO
              rw [HOK.out, Bool.true_and] at HN
              rw [← HFF.out x hx4] at HN HNO
              have HXA := Lib.hid hx
              clear hx
              have c0 := HD_5.out.c0
              have c1 := HD_5.out.c1
              obtain ⟨mt, hmt⟩ : ∃ v, matchN t u x = v := ⟨_, rfl⟩
              have HMT := Lib.hid hmt
              rw [hmt] at HN HNO
              clear hmt
              have xb := HX_5.out.c x hx4
              obtain ⟨fx, hfx⟩ : ∃ v, F x = v := ⟨_, rfl⟩
              have HFX := Lib.hid hfx
              rw [hfx] at HN HNO xb
              clear hfx
              have hx0 : (0 : Int) ≤ (x : Int) := by omega
              have hx4i : (x : Int) < 4096 := by omega
              cases mt
              · have HP : Hid (okIn (all.take (l + 1)) list t u = true) := Lib.hid HN.out
                go_wp2_with (go_at_call 85; refine (armMatch_v t u x _ ht4 hu4 hx4 HMT.out).mono ?_; rintro e w6 ⟨rfl, hb⟩; have HBM := Lib.hid hb; clear hb)
                go_roundg g3
                case measure => omega
                case rel => exact ⟨l + 1, by omega, by go_num, HP, Lib.hid (HD_5.out.below HBM.out), Lib.hid (own_below HR_5.out HBM.out), Lib.hid (HX_5.out.below HBM.out), Lib.hid (HA_5.out.below' HBM.out HB_5.out.size), Lib.hid (HB_5.out.trans (HBM.out.mono HB_5.out.size))⟩
              · have HXB : Hid (∀ w', Below wr.heap.size wr w' → w'.cell? ⟨w.heap.size, x, none⟩ = some (.bool fx)) := Lib.hid (fun w' hb => keep1 hb xb)
                cases fx
                · have HP : Hid (okIn all list t u = false) := Lib.hid (HNO.out rfl)
                  have HS : Hid (r1 ++ rowW all list (t : Int) (all.take (j + 1)) = r2) := Lib.hid (by rw [HSN2.out, HP.out, if_neg (by decide), List.append_nil])
                  go_wp2_with (go_at_call 85; refine (armMatch_v t u x _ ht4 hu4 hx4 HMT.out).mono ?_; rintro e w6 ⟨rfl, hb⟩; have xb6 := HXB.out _ hb; have HBM := Lib.hid hb; clear hb)
                  go_roundg g2
                  case measure => omega
                  case rel => exact ⟨j + 1, by omega, by go_num, Lib.hid (by rw [HS.out]; exact own_below HR_5.out HBM.out), Lib.hid (HX_5.out.below HBM.out), Lib.hid (HA_5.out.below' HBM.out HB_5.out.size), Lib.hid (HB_5.out.trans (HBM.out.mono HB_5.out.size))⟩
                · have HP : Hid (okIn (all.take (l + 1)) list t u = true) := Lib.hid HN.out
                  go_wp2_with (go_at_call 85; refine (armMatch_v t u x _ ht4 hu4 hx4 HMT.out).mono ?_; rintro e w6 ⟨rfl, hb⟩; have xb6 := HXB.out _ hb; have HBM := Lib.hid hb; clear hb)
                  go_roundg g3
                  case measure => omega
                  case rel => exact ⟨l + 1, by omega, by go_num, HP, Lib.hid (HD_5.out.below HBM.out), Lib.hid (own_below HR_5.out HBM.out), Lib.hid (HX_5.out.below HBM.out), Lib.hid (HA_5.out.below' HBM.out HB_5.out.size), Lib.hid (HB_5.out.trans (HBM.out.mono HB_5.out.size))⟩
end Go.Proofs.Ytpmanbmhbfnefaa

namespace Go.Proofs.Ytpmanbmhbfnefaa
open Go.RowKit Go.Maps
set_option linter.unusedVariables false
set_option linter.unusedSimpArgs false
set_option maxRecDepth 100000

def okG (k : Nat) (n : Int) : Bool := (decide (0 ≤ n) && decide (n ≤ 4095)) && decide (nl n.toNat k = 0)
theorem mGrOk_is (ds : List D) (b : Int) (list : List Int) : mGrOk ds b list = (vFlag ds b && decide (popc (mMask ds) ≤ 6) && decide (list.length ≤ 64) && list.all (okG (mMask ds))) := rfl
theorem mGreat_no {ds : List D} {b : Int} {list : List Int} (h : mGrOk ds b list = false) : mGreat ds b list = [] := by unfold mGreat; rw [h]; rfl
theorem okG_snoc {k : Nat} {list : List Int} {j : Nat} (hj : j < list.length) : (list.take (j + 1)).all (okG k) = ((list.take j).all (okG k) && okG k list[j]) := by
  rw [List.take_succ_eq_append_getElem hj, List.all_append, List.all_cons, List.all_nil, Bool.and_true]
theorem okG_bad {k : Nat} {list : List Int} {j : Nat} (hj : j < list.length) (h : okG k list[j] = false) : list.all (okG k) = false := by
  rw [List.all_eq_false]
  exact ⟨_, List.getElem_mem hj, by rw [h]; exact Bool.false_ne_true⟩
theorem rowA_non {all list qs : List Int} {p : Int} {a : Ar} (h : a ∈ rowA all list p qs) : a.non ∈ qs := by
  unfold rowA at h
  obtain ⟨q, hq, rfl⟩ := List.mem_map.1 h
  exact (List.mem_filter.1 hq).1
theorem arms_arN {m : Nat} {list : List Int} (hm : m < 4096) : ∀ a ∈ mArmsIn m list, ArN a := by
  intro a ha
  unfold mArmsIn armsA at ha
  obtain ⟨p, hp, ha⟩ := List.mem_flatMap.1 ha
  have h1 := rowA_all ha
  have h2 := rowA_non ha
  obtain ⟨t, e1, l1, _⟩ := partsG_mem hp
  unfold othersOf at h2
  obtain ⟨u, e2, l2, _⟩ := partsG_mem h2
  have h3 := nl_le m p.toNat
  exact ⟨t, u, by rw [h1, e1], e2, by omega, by omega⟩
theorem arN_ok {a : Ar} (h : ArN a) : a.ok := by
  obtain ⟨p, q, h1, h2, h3, h4⟩ := h
  unfold Ar.ok I64
  omega
theorem mArmsIn_len {m : Nat} {list : List Int} (h : popc m ≤ 6) : (mArmsIn m list).length ≤ 4096 := by
  have h1 := armsIn_len (list := list) h (k := (partsTo m (m + 1)).length)
  rwa [List.take_of_length_le (Nat.le_refl _)] at h1

set_option maxHeartbeats 1000000 in
theorem specCoversG_v (p q r s : Nat) (w : World) (hp : p < 4096) (hq : q < 4096) (hr : r < 4096) (hs : s < 4096) {v : Bool} (hv : coverN p q r s = v) :
    Calls Try.prog 70 #[.agg #[.int .i64 p, .int .i64 q], .agg #[.int .i64 r, .int .i64 s]] w fun e w' => e = .returned (.bool v) ∧ Below w.heap.size w w' := by
  subst hv
  have HB0 : Hid (Below w.heap.size w ((w.alloc (.cells #[.int .i64 p, .int .i64 q] 72)).alloc (.cells #[.int .i64 r, .int .i64 s] 72))) := Lib.hid (((Below.refl _ _).alloc (Nat.le_refl _) _).alloc (by simp) _)
  obtain ⟨s1, h1⟩ : ∃ a, nl p r = a := ⟨_, rfl⟩
  obtain ⟨s2, h2⟩ : ∃ a, nl q s = a := ⟨_, rfl⟩
  have hM : coverN p q r s = (decide (s1 = 0) && decide (s2 = 0)) := by unfold coverN; rw [h1, h2]
  have H1 := Lib.hid h1
  have H2 := Lib.hid h2
  clear h1 h2
  by_cases h0 : s1 = 0
  · subst h0
    have HM := Lib.hid hM
    clear hM
    go_enter Try.func70, Try.ntmps70
    go_wp2_with (first | (go_at_call_of 68 p; refine (less_any p r _ hp hr H1.out).mono ?_; rintro e w' ⟨rfl, rfl⟩) | (go_at_call_of 68 q; refine (less_any q s _ hq hs H2.out).mono ?_; rintro e w' ⟨rfl, rfl⟩))
    go_ret
    exact ⟨ret_bool (by rw [HM.out, Bool.eq_iff_iff]; simp), HB0.out⟩
  · have e1 : ((s1 : Int) == 0) = false := by rw [beq_eq_false_iff_ne]; omega
    have HM : Hid (coverN p q r s = false) := Lib.hid (by rw [hM, decide_eq_false h0]; rfl)
    clear hM
    go_enter Try.func70, Try.ntmps70
    go_wp2_with (first | (go_at_call_of 68 p; refine (less_any p r _ hp hr H1.out).mono ?_; rintro e w' ⟨rfl, rfl⟩))
    go_ret
    exact ⟨by rw [HM.out]; first | done | rfl, HB0.out⟩
set_option maxHeartbeats 16000000 in
theorem specGreat_any (ds : List D) (b : Int) (list : List Int) (A : Option Addr) (m c : Nat) (w : World) (hr : SD w w.heap.size A m c ds) (Bs : Option Addr) (q cs : Nat) (hs : SI w w.heap.size Bs q cs list) :
    Calls Try.prog 25 #[.agg #[.slice A m c, .int .i64 b], .slice Bs q cs] w (ArmsP (mGreat ds b list) w) := by
  have hl := hs.max
  have hl2 := hs.cap
  unfold maxLen at hl
  obtain rfl := hs.len
  have HF := Lib.hid (FB.start hr b)
  have HS : Hid (SI (w.alloc (.cells #[.slice A m c, .int .i64 b] 58)) w.heap.size Bs list.length cs list) := Lib.hid (hs.below HF.out.bel)
  clear hr hs
  cases hv : vFlag ds b
  · have HV := Lib.hid hv
    have HM : Hid (mGreat ds b list = []) := Lib.hid (mGreat_no (by rw [mGrOk_is, hv]; rfl))
    clear hv
    go_enter Try.func25, Try.ntmps25
    go_wp2_with fail
    generalize (w.alloc (.cells #[.slice A m c, .int .i64 b] 58)) = w0 at *
    refine (mask_w ds _ _ _ _ HF.out.sd).mono ?_
    rintro e w1 ⟨⟨mz, rfl⟩, rfl⟩
    have c0 := HF.out.c0
    have c1 := HF.out.c1
    go_wp2_with fail
    refine (specVF_v ds b _ _ _ _ HF.out.sd HV.out).mono ?_
    rintro e w2 ⟨rfl, hb⟩
    have HB1 := Lib.hid (HF.out.after hb)
    clear hb c0 c1
    go_wp2
    go_ret
    exact ⟨none, 0, by rw [HM.out]; rfl, by rw [HM.out]; exact World.ownsRow_nil _ _ _ _, HB1.out⟩
  have HV := Lib.hid hv
  have HIN := Lib.hid (vFlag_in hv)
  obtain ⟨k, hk⟩ : ∃ k, mMask ds = k := ⟨_, rfl⟩
  have hk4 : k < 4096 := by rw [← hk]; exact mMask_lt12 HIN.out
  have HMM := Lib.hid hk
  have HOKE : Hid (mGrOk ds b list = (decide (popc k ≤ 6) && decide (list.length ≤ 64) && list.all (okG k))) := Lib.hid (by rw [mGrOk_is, hv, hk, Bool.true_and])
  have HGR : Hid (mGrOk ds b list = true → mGreat ds b list = mGrI (mArmsIn k list)) := Lib.hid (fun h => by unfold mGreat; rw [h, if_pos rfl, hk])
  obtain ⟨pc, hpc⟩ : ∃ x, popc k = x := ⟨_, rfl⟩
  have HPC := Lib.hid hpc
  rw [hpc] at HOKE
  clear hv hk hpc
  go_enter Try.func25, Try.ntmps25
  go_wp2_with fail
  generalize (w.alloc (.cells #[.slice A m c, .int .i64 b] 58)) = w0 at *
  refine (mask_any ds _ _ _ _ HF.out.sd HIN.out HMM.out).mono ?_
  rintro e w1 ⟨rfl, rfl⟩
  have c0 := HF.out.c0
  have c1 := HF.out.c1
  go_wp2_with fail
  refine (specVF_v ds b _ _ _ _ HF.out.sd HV.out).mono ?_
  rintro e w2 ⟨rfl, hb⟩
  have HB2 := Lib.hid (HF.out.after hb)
  have HS2 : Hid (SI w2 w2.heap.size Bs list.length cs list) := Lib.hid ((HS.out.below' hb HF.out.bel.size).more HB2.out.size)
  clear hb c0 c1 HF HS
  by_cases h6 : pc ≤ 6
  case neg =>
    have HM : Hid (mGreat ds b list = []) := Lib.hid (mGreat_no (by rw [HOKE.out, decide_eq_false h6]; rfl))
    have h6i : (6 : Int) < (pc : Int) := by omega
    go_wp2_with (go_at_call 66; refine (bitCount_any k _ (by omega) HPC.out).mono ?_; rintro e w' ⟨rfl, rfl⟩)
    go_ret
    exact ⟨none, 0, by rw [HM.out]; rfl, by rw [HM.out]; exact World.ownsRow_nil _ _ _ _, HB2.out⟩
  have h6i : ¬ (6 : Int) < (pc : Int) := by omega
  by_cases h64 : list.length ≤ 64
  case neg =>
    have HM : Hid (mGreat ds b list = []) := Lib.hid (mGreat_no (by rw [HOKE.out, decide_eq_false h64, Bool.and_false]; rfl))
    have h64i : (64 : Int) < (list.length : Int) := by omega
    go_wp2_with (go_at_call 66; refine (bitCount_any k _ (by omega) HPC.out).mono ?_; rintro e w' ⟨rfl, rfl⟩)
    go_ret
    exact ⟨none, 0, by rw [HM.out]; rfl, by rw [HM.out]; exact World.ownsRow_nil _ _ _ _, HB2.out⟩
  have h64i : ¬ (64 : Int) < (list.length : Int) := by omega
  go_wp2_with (go_at_call 66; refine (bitCount_any k _ (by omega) HPC.out).mono ?_; rintro e w' ⟨rfl, rfl⟩)
  go_loop [6] (fun i => ∃ (j : Nat), j ≤ list.length ∧ i = .int .i64 j ∧ Hid ((list.take j).all (okG k) = true)) (fun i => list.length - (intOf i).toNat)
  case atStart => exact ⟨0, Nat.zero_le _, rfl, Lib.hid rfl⟩
  case round =>
    obtain ⟨j, hj, rfl, hok⟩ := hrel
    by_cases hlt : j < list.length
    · obtain ⟨bb, o, hA, hbb, d1⟩ := HS2.out.at_ hlt
      subst hA
      have hi1 : (j : Int) < (list.length : Int) := by omega
      have hi0 : (0 : Int) ≤ (j : Int) := by omega
      have HSN := Lib.hid (okG_snoc (k := k) hlt)
      have HBD : Hid (okG k list[j] = false → mGreat ds b list = []) := Lib.hid (fun h => mGreat_no (by rw [HOKE.out, okG_bad hlt h, Bool.and_false]))
      generalize list[j] = x at *
      cases hx : (decide ((0 : Int) ≤ x) && decide (x ≤ 4095))
      · have HM : Hid (mGreat ds b list = []) := Lib.hid (HBD.out (by unfold okG; rw [hx]; rfl))
        have HX := Lib.hid hx
        clear hx
        go_wp2_with (go_at_call 67; refine (inRange_v x 0 4095 _ HX.out).mono ?_; rintro e w' ⟨rfl, rfl⟩)
        go_ret
        exact ⟨none, 0, by rw [HM.out]; rfl, by rw [HM.out]; exact World.ownsRow_nil _ _ _ _, HB2.out⟩
      · have HX := Lib.hid hx
        rw [Bool.and_eq_true, decide_eq_true_iff, decide_eq_true_iff] at hx
        obtain ⟨t, rfl⟩ := Int.eq_ofNat_of_zero_le hx.1
        have ht4 : t < 4096 := by omega
        obtain ⟨z, hz⟩ : ∃ z, nl t k = z := ⟨_, rfl⟩
        have HZ := Lib.hid hz
        have HOX : Hid (okG k (t : Int) = decide (z = 0)) := Lib.hid (by unfold okG; rw [HX.out, Int.toNat_natCast, hz, Bool.true_and])
        clear hz hx
        by_cases hz0 : z = 0
        · have HP : Hid ((list.take (j + 1)).all (okG k) = true) := Lib.hid (by rw [HSN.out, hok.out, HOX.out, decide_eq_true hz0]; rfl)
          subst hz0
          go_wp2_with (first | (go_at_call 67; refine (inRange_v t 0 4095 _ HX.out).mono ?_; rintro e w' ⟨rfl, rfl⟩) | (go_at_call 68; refine (less_any t k _ ht4 hk4 HZ.out).mono ?_; rintro e w' ⟨rfl, rfl⟩))
          go_round
          case rel => exact ⟨j + 1, by omega, by go_num, HP⟩
          case measure => simp [intOf]; omega
        · have HM : Hid (mGreat ds b list = []) := Lib.hid (HBD.out (by rw [HOX.out, decide_eq_false hz0]))
          have hz1 : (0 : Int) < (z : Int) := by omega
          go_wp2_with (first | (go_at_call 67; refine (inRange_v t 0 4095 _ HX.out).mono ?_; rintro e w' ⟨rfl, rfl⟩) | (go_at_call 68; refine (less_any t k _ ht4 hk4 HZ.out).mono ?_; rintro e w' ⟨rfl, rfl⟩))
          go_ret
          exact ⟨none, 0, by rw [HM.out]; rfl, by rw [HM.out]; exact World.ownsRow_nil _ _ _ _, HB2.out⟩
    · obtain rfl : j = list.length := by omega
      have hj9 : ¬ (list.length : Int) < (list.length : Int) := by omega
      have HM : Hid (mGreat ds b list = mGrI (mArmsIn k list)) := Lib.hid (HGR.out (by have h := hok.out; rw [List.take_of_length_le (Nat.le_refl _)] at h; rw [HOKE.out, h, decide_eq_true h6, decide_eq_true h64]; rfl))
      have hp6 : popc k ≤ 6 := by rw [HPC.out]; exact h6
      have HNAT := Lib.hid (arms_arN (list := list) hk4)
      have hal := mArmsIn_len (list := list) hp6
      have HAI : Hid (∀ (w : World) (q cs : Nat) (Bs : Option Addr), SI w w.heap.size Bs q cs list → Calls Try.prog 69 #[.int .i64 k, .slice Bs q cs] w (ArmsP (mArmsIn k list) w)) := Lib.hid (fun w q cs Bs h => armsIn_any k list Bs q cs w h hk4 hp6)
      unfold ArmsP at HAI
      generalize mArmsIn k list = arms at *
      go_wp2_with fail
      refine (HAI.out _ _ _ _ HS2.out).mono ?_
      rintro e w3 ⟨Ar0, cr, rfl, ho, hb⟩
      have HA3 := Lib.hid (sa_of_own ho (fun a ha => arN_ok (HNAT.out a ha)))
      have HB3 : Hid (Below w.heap.size w w3) := Lib.hid (HB2.out.trans (hb.mono HB2.out.size))
      clear ho hb
      obtain ⟨w4, hw⟩ : ∃ W : World, W = (w3.alloc (.cells #[] 72)) := ⟨_, rfl⟩
      obtain ⟨G, hG⟩ : ∃ g, w3.heap.size = g := ⟨_, rfl⟩
      have HX4 : Hid (w4.ownsRow G 72 2 (.slice (some ⟨w3.heap.size, 0, none⟩) 0 0) 0 (flatA [])) := Lib.hid (by rw [hw, ← hG]; exact World.ownsRow_made w3 #[] 0 (Nat.le_refl _) (by unfold maxLen; omega) rfl)
      have HL4 : Hid (Below G w3 w4) := Lib.hid (by rw [hw, ← hG]; exact (Below.refl _ _).alloc (Nat.le_refl _) _)
      have HW4 : Hid ((w3.alloc (.cells #[] 72)) = w4) := Lib.hid hw.symm
      have HGG := Lib.hid hG
      rw [hG] at HA3
      have hwG : w.heap.size ≤ G := by rw [← hG]; exact HB3.out.size
      have hG4 : G ≤ w4.heap.size := by rw [hw]; simp; omega
      clear hw hG
      go_wp2
      rw [HW4.out]
      go_loopw [8, 9] (fun v i wr => ∃ j : Nat, j ≤ arms.length ∧ i = .int .i64 j ∧ Hid (wr.ownsRow G 72 2 v (grTo arms j).length (flatA (grTo arms j))) ∧ Hid (Below G w3 wr) ∧ G ≤ wr.heap.size) (fun _ i _ => arms.length - (intOf i).toNat)
      case atStart => exact ⟨0, Nat.zero_le _, rfl, HX4, HL4, hG4⟩
      case round =>
        clear HX4 HL4 hG4
        obtain ⟨i, hi, rfl, HX5, HL5, hG5⟩ := hrel
        by_cases hli : i < arms.length
        · have HGS := Lib.hid (grTo_succ hli)
          have hgl := grTo_len arms i
          obtain ⟨AX, cX, hvx⟩ := own_form HX5.out
          subst hvx
          generalize hgr : grTo arms i = gs at *
          have HGT := Lib.hid hgr
          clear hgr
          have hii : (i : Int) < (arms.length : Int) := by omega
          have hi0 : (0 : Int) ≤ (i : Int) := by omega
          obtain ⟨p2, q2, hp2, hq2, lp2, lq2⟩ := HNAT.out _ (List.getElem_mem hli)
          have HAI2 : Hid (arms[i] = ⟨(p2 : Int), (q2 : Int)⟩) := Lib.hid (by cases h : arms[i]; rw [h] at hp2 hq2; simp only at hp2 hq2; rw [hp2, hq2])
          go_wp2
          go_loopw [10, 11] (fun v i' wr => ∃ j : Nat, j ≤ arms.length ∧ i' = .int .i64 j ∧ v = .bool (covIx arms i j) ∧ Hid (wr.ownsRow G 72 2 (.slice AX gs.length cX) gs.length (flatA gs)) ∧ Hid (Below G w3 wr) ∧ G ≤ wr.heap.size) (fun _ i' _ => arms.length - (intOf i').toNat)
          case atStart => exact ⟨0, Nat.zero_le _, rfl, rfl, HX5, HL5, hG5⟩
          case round =>
            clear HX5 HL5 hG5
            obtain ⟨j, hj, rfl, rfl, HX6, HL6, hG6⟩ := hrel
            by_cases hlj : j < arms.length
            · have HCS := Lib.hid (covIx_succ hli hlj)
              obtain ⟨b1, o1, hA, hbb1, y1, y2⟩ := (HA3.out.below HL6.out).at_ hlj
              subst hA
              obtain ⟨b2, o2, hA, hbb2, z1, z2⟩ := (HA3.out.below HL6.out).at_ hli
              injection hA with hA
              injection hA with e1 e2
              subst e1 e2
              obtain ⟨p1, q1, hp1, hq1, lp1, lq1⟩ := HNAT.out _ (List.getElem_mem hlj)
              rw [hp1] at y1
              rw [hq1] at y2
              rw [hp2] at z1
              rw [hq2] at z2
              have HCV : Hid (covA arms[j] arms[i] = coverN p1 q1 p2 q2) := Lib.hid (by unfold covA; rw [hp1, hq1, hp2, hq2]; simp only [Int.toNat_natCast])
              rw [HCV.out] at HCS
              obtain ⟨cn, hcn⟩ : ∃ v, coverN p1 q1 p2 q2 = v := ⟨_, rfl⟩
              have HCN := Lib.hid hcn
              rw [hcn] at HCS
              clear hcn hp1 hq1
              generalize hcv : covIx arms i j = cv at *
              have HCI := Lib.hid hcv
              clear hcv
              have hji : (j : Int) < (arms.length : Int) := by omega
              have hj0 : (0 : Int) ≤ (j : Int) := by omega
              have hsl := HA3.out.max
              have hsc := HA3.out.cap
              unfold maxLen at hsl
              obtain ⟨w6, hwn⟩ : ∃ W : World, W = wr := ⟨_, rfl⟩
              subst hwn
              go_upto_region 18 with fail
              refine wp_region_held_drew (S := fun w' => w'.cell? ⟨b1, o1 + j * 2, none⟩ = some (.int .i64 p1) ∧ w'.cell? ⟨b1, o1 + j * 2 + 1, none⟩ = some (.int .i64 q1) ∧ w'.cell? ⟨b1, o1 + i * 2, none⟩ = some (.int .i64 p2) ∧ w'.cell? ⟨b1, o1 + i * 2 + 1, none⟩ = some (.int .i64 q2)) (by kernel_rfl) ⟨y1, y2, z1, z2⟩ (fun hHeld => ?_)
              generalize hwd : w6.drew = w7 at hHeld ⊢
              have hb : Below w6.heap.size w6 w7 := by rw [← hwd]; exact (Below.refl _ _).drew
              have y1_7 := keep1 hb y1
              have y2_7 := keep1 hb y2
              have z1_7 := keep1 hb z1
              have z2_7 := keep1 hb z2
              have HX7 := Lib.hid (own_below HX6.out hb)
              have HL7 : Hid (Below G w3 w7) := Lib.hid (HL6.out.trans (hb.mono hG6))
              have hG7 : G ≤ w7.heap.size := by have := hb.size; omega
              clear hb hwd y1 y2 z1 z2 HX6 HL6 hG6
              cases cv
              case true =>
                have HC1 : Hid (covIx arms i (j + 1) = true) := Lib.hid (by rw [HCS.out, Bool.true_or])
                refine wpAnyH_take (i := 0) (v := ?_) rfl (by kernel_rfl) (by kernel_rfl) (by kernel_rfl) (fun _ _ _ h => h) (Or.inl ⟨by kernel_rfl, ?_⟩) hHeld ?_
                rotate_left
                · intro wz hSw
                  try dsimp only at hSw
                  first
                  | (go_simp; done)
                  | (go_simp; with_reducible rfl)
                try simp only [Act.put, List.setIfInBounds_toArray, List.set_cons_zero, List.set_cons_succ]
                refine wpAnyH_take (i := 1) (v := ?_) rfl (by kernel_rfl) (by kernel_rfl) (by kernel_rfl) (fun _ _ _ h => h) (Or.inl ⟨by kernel_rfl, ?_⟩) hHeld ?_
                rotate_left
                · intro wz hSw
                  try dsimp only at hSw
                  first
                  | (go_simp; done)
                  | (go_simp; with_reducible rfl)
                try simp only [Act.put, List.setIfInBounds_toArray, List.set_cons_zero, List.set_cons_succ]
                refine wpAnyH_take (i := 2) (v := undef) rfl (by kernel_rfl) (by kernel_rfl) (by kernel_rfl) (fun _ _ _ h => h) (Or.inr ⟨by kernel_rfl, rfl⟩) hHeld ?_
                try simp only [Act.put, List.setIfInBounds_toArray, List.set_cons_zero, List.set_cons_succ]
                refine wpAnyH_take (i := 3) (v := undef) rfl (by kernel_rfl) (by kernel_rfl) (by kernel_rfl) (fun _ _ _ h => h) (Or.inr ⟨by kernel_rfl, rfl⟩) hHeld ?_
                try simp only [Act.put, List.setIfInBounds_toArray, List.set_cons_zero, List.set_cons_succ]
                refine wpAnyH_take (i := 4) (v := undef) rfl (by kernel_rfl) (by kernel_rfl) (by kernel_rfl) (fun _ _ _ h => h) (Or.inr ⟨by kernel_rfl, rfl⟩) hHeld ?_
                try simp only [Act.put, List.setIfInBounds_toArray, List.set_cons_zero, List.set_cons_succ]
                refine wpAnyH_take (i := 5) (v := undef) rfl (by kernel_rfl) (by kernel_rfl) (by kernel_rfl) (fun _ _ _ h => h) (Or.inr ⟨by kernel_rfl, rfl⟩) hHeld ?_
                try simp only [Act.put, List.setIfInBounds_toArray, List.set_cons_zero, List.set_cons_succ]
                refine wpAnyH_take (i := 6) (v := undef) rfl (by kernel_rfl) (by kernel_rfl) (by kernel_rfl) (fun _ _ _ h => h) (Or.inr ⟨by kernel_rfl, rfl⟩) hHeld ?_
                try simp only [Act.put, List.setIfInBounds_toArray, List.set_cons_zero, List.set_cons_succ]
                refine wpAnyH_take (i := 7) (v := undef) rfl (by kernel_rfl) (by kernel_rfl) (by kernel_rfl) (fun _ _ _ h => h) (Or.inr ⟨by kernel_rfl, rfl⟩) hHeld ?_
                try simp only [Act.put, List.setIfInBounds_toArray, List.set_cons_zero, List.set_cons_succ]
                refine wpAnyH_take (i := 8) (v := undef) rfl (by kernel_rfl) (by kernel_rfl) (by kernel_rfl) (fun _ _ _ h => h) (Or.inr ⟨by kernel_rfl, rfl⟩) hHeld ?_
                try simp only [Act.put, List.setIfInBounds_toArray, List.set_cons_zero, List.set_cons_succ]
                refine wpAnyH_take (i := 9) (v := undef) rfl (by kernel_rfl) (by kernel_rfl) (by kernel_rfl) (fun _ _ _ h => h) (Or.inr ⟨by kernel_rfl, rfl⟩) hHeld ?_
                try simp only [Act.put, List.setIfInBounds_toArray, List.set_cons_zero, List.set_cons_succ]
                refine wpAnyH_take (i := 10) (v := undef) rfl (by kernel_rfl) (by kernel_rfl) (by kernel_rfl) (fun _ _ _ h => h) (Or.inr ⟨by kernel_rfl, rfl⟩) hHeld ?_
                try simp only [Act.put, List.setIfInBounds_toArray, List.set_cons_zero, List.set_cons_succ]
                refine wpAnyH_take (i := 11) (v := undef) rfl (by kernel_rfl) (by kernel_rfl) (by kernel_rfl) (fun _ _ _ h => h) (Or.inr ⟨by kernel_rfl, rfl⟩) hHeld ?_
                try simp only [Act.put, List.setIfInBounds_toArray, List.set_cons_zero, List.set_cons_succ]
                refine wpAnyH_take (i := 12) (v := undef) rfl (by kernel_rfl) (by kernel_rfl) (by kernel_rfl) (fun _ _ _ h => h) (Or.inr ⟨by kernel_rfl, rfl⟩) hHeld ?_
                try simp only [Act.put, List.setIfInBounds_toArray, List.set_cons_zero, List.set_cons_succ]
                refine wpAnyH_take (i := 13) (v := undef) rfl (by kernel_rfl) (by kernel_rfl) (by kernel_rfl) (fun _ _ _ h => h) (Or.inr ⟨by kernel_rfl, rfl⟩) hHeld ?_
                try simp only [Act.put, List.setIfInBounds_toArray, List.set_cons_zero, List.set_cons_succ]
                refine wpAnyH_take (i := 14) (v := undef) rfl (by kernel_rfl) (by kernel_rfl) (by kernel_rfl) (fun _ _ _ h => h) (Or.inr ⟨by kernel_rfl, rfl⟩) hHeld ?_
                try simp only [Act.put, List.setIfInBounds_toArray, List.set_cons_zero, List.set_cons_succ]
                refine wpAnyH_take (i := 15) (v := undef) rfl (by kernel_rfl) (by kernel_rfl) (by kernel_rfl) (fun _ _ _ h => h) (Or.inr ⟨by kernel_rfl, rfl⟩) hHeld ?_
                try simp only [Act.put, List.setIfInBounds_toArray, List.set_cons_zero, List.set_cons_succ]
                refine wpAnyH_take (i := 16) (v := ?_) rfl (by kernel_rfl) (by kernel_rfl) (by kernel_rfl) (fun _ _ _ h => h) (Or.inl ⟨by kernel_rfl, ?_⟩) hHeld ?_
                rotate_left
                · intro wz hSw
                  try dsimp only at hSw
                  first
                  | (go_simp; done)
                  | (go_simp; with_reducible rfl)
                try simp only [Act.put, List.setIfInBounds_toArray, List.set_cons_zero, List.set_cons_succ]
                refine wpAnyH_take (i := 17) (v := ?_) rfl (by kernel_rfl) (by kernel_rfl) (by kernel_rfl) (fun _ _ _ h => h) (Or.inl ⟨by kernel_rfl, ?_⟩) hHeld ?_
                rotate_left
                · intro wz hSw
                  try dsimp only at hSw
                  first
                  | (go_simp; done)
                  | (go_simp; with_reducible rfl)
                try simp only [Act.put, List.setIfInBounds_toArray, List.set_cons_zero, List.set_cons_succ]
                refine wpAnyH_done (by kernel_rfl) ?_ _
                try go_simp
                go_wp2
                go_roundw
                case rel => exact ⟨j + 1, by omega, by go_num, by rw [HC1.out], HX7, HL7, hG7⟩
                case measure => simp [intOf]; omega
              by_cases hji2 : j = i
              case pos =>
                have HC1 : Hid (covIx arms i (j + 1) = false) := Lib.hid (by rw [HCS.out, Bool.false_or, decide_eq_false (fun h => h hji2), Bool.false_and])
                subst hji2
                refine wpAnyH_take (i := 0) (v := ?_) rfl (by kernel_rfl) (by kernel_rfl) (by kernel_rfl) (fun _ _ _ h => h) (Or.inl ⟨by kernel_rfl, ?_⟩) hHeld ?_
                rotate_left
                · intro wz hSw
                  try dsimp only at hSw
                  first
                  | (go_simp; done)
                  | (go_simp; with_reducible rfl)
                try simp only [Act.put, List.setIfInBounds_toArray, List.set_cons_zero, List.set_cons_succ]
                refine wpAnyH_take (i := 1) (v := ?_) rfl (by kernel_rfl) (by kernel_rfl) (by kernel_rfl) (fun _ _ _ h => h) (Or.inl ⟨by kernel_rfl, ?_⟩) hHeld ?_
                rotate_left
                · intro wz hSw
                  try dsimp only at hSw
                  first
                  | (go_simp; done)
                  | (go_simp; with_reducible rfl)
                try simp only [Act.put, List.setIfInBounds_toArray, List.set_cons_zero, List.set_cons_succ]
                refine wpAnyH_take (i := 2) (v := ?_) rfl (by kernel_rfl) (by kernel_rfl) (by kernel_rfl) (fun _ _ _ h => h) (Or.inl ⟨by kernel_rfl, ?_⟩) hHeld ?_
                rotate_left
                · intro wz hSw
                  try dsimp only at hSw
                  first
                  | (go_simp; done)
                  | (go_simp; with_reducible rfl)
                try simp only [Act.put, List.setIfInBounds_toArray, List.set_cons_zero, List.set_cons_succ]
                refine wpAnyH_take (i := 3) (v := ?_) rfl (by kernel_rfl) (by kernel_rfl) (by kernel_rfl) (fun _ _ _ h => h) (Or.inl ⟨by kernel_rfl, ?_⟩) hHeld ?_
                rotate_left
                · intro wz hSw
                  try dsimp only at hSw
                  first
                  | (go_simp; done)
                  | (go_simp; with_reducible rfl)
                try simp only [Act.put, List.setIfInBounds_toArray, List.set_cons_zero, List.set_cons_succ]
                refine wpAnyH_take (i := 4) (v := ?_) rfl (by kernel_rfl) (by kernel_rfl) (by kernel_rfl) (fun _ _ _ h => h) (Or.inl ⟨by kernel_rfl, ?_⟩) hHeld ?_
                rotate_left
                · intro wz hSw
                  try dsimp only at hSw
                  first
                  | (go_simp; done)
                  | (go_simp; with_reducible rfl)
                try simp only [Act.put, List.setIfInBounds_toArray, List.set_cons_zero, List.set_cons_succ]
                refine wpAnyH_take (i := 5) (v := ?_) rfl (by kernel_rfl) (by kernel_rfl) (by kernel_rfl) (fun _ _ _ h => h) (Or.inl ⟨by kernel_rfl, ?_⟩) hHeld ?_
                rotate_left
                · intro wz hSw
                  try dsimp only at hSw
                  first
                  | (go_simp; done)
                  | (go_simp; with_reducible rfl)
                try simp only [Act.put, List.setIfInBounds_toArray, List.set_cons_zero, List.set_cons_succ]
                refine wpAnyH_take (i := 6) (v := undef) rfl (by kernel_rfl) (by kernel_rfl) (by kernel_rfl) (fun _ _ _ h => h) (Or.inr ⟨by kernel_rfl, rfl⟩) hHeld ?_
                try simp only [Act.put, List.setIfInBounds_toArray, List.set_cons_zero, List.set_cons_succ]
                refine wpAnyH_take (i := 7) (v := undef) rfl (by kernel_rfl) (by kernel_rfl) (by kernel_rfl) (fun _ _ _ h => h) (Or.inr ⟨by kernel_rfl, rfl⟩) hHeld ?_
                try simp only [Act.put, List.setIfInBounds_toArray, List.set_cons_zero, List.set_cons_succ]
                refine wpAnyH_take (i := 8) (v := undef) rfl (by kernel_rfl) (by kernel_rfl) (by kernel_rfl) (fun _ _ _ h => h) (Or.inr ⟨by kernel_rfl, rfl⟩) hHeld ?_
                try simp only [Act.put, List.setIfInBounds_toArray, List.set_cons_zero, List.set_cons_succ]
                refine wpAnyH_take (i := 9) (v := undef) rfl (by kernel_rfl) (by kernel_rfl) (by kernel_rfl) (fun _ _ _ h => h) (Or.inr ⟨by kernel_rfl, rfl⟩) hHeld ?_
                try simp only [Act.put, List.setIfInBounds_toArray, List.set_cons_zero, List.set_cons_succ]
                refine wpAnyH_take (i := 10) (v := undef) rfl (by kernel_rfl) (by kernel_rfl) (by kernel_rfl) (fun _ _ _ h => h) (Or.inr ⟨by kernel_rfl, rfl⟩) hHeld ?_
                try simp only [Act.put, List.setIfInBounds_toArray, List.set_cons_zero, List.set_cons_succ]
                refine wpAnyH_take (i := 11) (v := undef) rfl (by kernel_rfl) (by kernel_rfl) (by kernel_rfl) (fun _ _ _ h => h) (Or.inr ⟨by kernel_rfl, rfl⟩) hHeld ?_
                try simp only [Act.put, List.setIfInBounds_toArray, List.set_cons_zero, List.set_cons_succ]
                refine wpAnyH_take (i := 12) (v := undef) rfl (by kernel_rfl) (by kernel_rfl) (by kernel_rfl) (fun _ _ _ h => h) (Or.inr ⟨by kernel_rfl, rfl⟩) hHeld ?_
                try simp only [Act.put, List.setIfInBounds_toArray, List.set_cons_zero, List.set_cons_succ]
                refine wpAnyH_take (i := 13) (v := undef) rfl (by kernel_rfl) (by kernel_rfl) (by kernel_rfl) (fun _ _ _ h => h) (Or.inr ⟨by kernel_rfl, rfl⟩) hHeld ?_
                try simp only [Act.put, List.setIfInBounds_toArray, List.set_cons_zero, List.set_cons_succ]
                refine wpAnyH_take (i := 14) (v := undef) rfl (by kernel_rfl) (by kernel_rfl) (by kernel_rfl) (fun _ _ _ h => h) (Or.inr ⟨by kernel_rfl, rfl⟩) hHeld ?_
                try simp only [Act.put, List.setIfInBounds_toArray, List.set_cons_zero, List.set_cons_succ]
                refine wpAnyH_take (i := 15) (v := ?_) rfl (by kernel_rfl) (by kernel_rfl) (by kernel_rfl) (fun _ _ _ h => h) (Or.inl ⟨by kernel_rfl, ?_⟩) hHeld ?_
                rotate_left
                · intro wz hSw
                  try dsimp only at hSw
                  first
                  | (go_simp; done)
                  | (go_simp; with_reducible rfl)
                try simp only [Act.put, List.setIfInBounds_toArray, List.set_cons_zero, List.set_cons_succ]
                refine wpAnyH_take (i := 16) (v := ?_) rfl (by kernel_rfl) (by kernel_rfl) (by kernel_rfl) (fun _ _ _ h => h) (Or.inl ⟨by kernel_rfl, ?_⟩) hHeld ?_
                rotate_left
                · intro wz hSw
                  try dsimp only at hSw
                  first
                  | (go_simp; done)
                  | (go_simp; with_reducible rfl)
                try simp only [Act.put, List.setIfInBounds_toArray, List.set_cons_zero, List.set_cons_succ]
                refine wpAnyH_take (i := 17) (v := ?_) rfl (by kernel_rfl) (by kernel_rfl) (by kernel_rfl) (fun _ _ _ h => h) (Or.inl ⟨by kernel_rfl, ?_⟩) hHeld ?_
                rotate_left
                · intro wz hSw
                  try dsimp only at hSw
                  first
                  | (go_simp; done)
                  | (go_simp; with_reducible rfl)
                try simp only [Act.put, List.setIfInBounds_toArray, List.set_cons_zero, List.set_cons_succ]
                refine wpAnyH_done (by kernel_rfl) ?_ _
                try go_simp
                go_wp2
                go_roundw
                case rel => exact ⟨j + 1, by omega, by go_num, by rw [HC1.out], HX7, HL7, hG7⟩
                case measure => simp [intOf]; omega
              have HC1 : Hid (covIx arms i (j + 1) = cn) := Lib.hid (by rw [HCS.out, Bool.false_or, decide_eq_true hji2, Bool.true_and])
              have hjq : ¬ ((j : Int) = (i : Int)) := by omega
              have hjb : ((j : Int) != (i : Int)) = true := by rw [bne_iff_ne]; exact hjq
              refine wpAnyH_take (i := 0) (v := ?_) rfl (by kernel_rfl) (by kernel_rfl) (by kernel_rfl) (fun _ _ _ h => h) (Or.inl ⟨by kernel_rfl, ?_⟩) hHeld ?_
              rotate_left
              · intro wz hSw
                try dsimp only at hSw
                first
                | (go_simp; done)
                | (go_simp; with_reducible rfl)
              try simp only [Act.put, List.setIfInBounds_toArray, List.set_cons_zero, List.set_cons_succ]
              refine wpAnyH_take (i := 1) (v := ?_) rfl (by kernel_rfl) (by kernel_rfl) (by kernel_rfl) (fun _ _ _ h => h) (Or.inl ⟨by kernel_rfl, ?_⟩) hHeld ?_
              rotate_left
              · intro wz hSw
                try dsimp only at hSw
                first
                | (go_simp; done)
                | (go_simp; with_reducible rfl)
              try simp only [Act.put, List.setIfInBounds_toArray, List.set_cons_zero, List.set_cons_succ]
              refine wpAnyH_take (i := 2) (v := ?_) rfl (by kernel_rfl) (by kernel_rfl) (by kernel_rfl) (fun _ _ _ h => h) (Or.inl ⟨by kernel_rfl, ?_⟩) hHeld ?_
              rotate_left
              · intro wz hSw
                try dsimp only at hSw
                first
                | (go_simp; done)
                | (go_simp; with_reducible rfl)
              try simp only [Act.put, List.setIfInBounds_toArray, List.set_cons_zero, List.set_cons_succ]
              refine wpAnyH_take (i := 3) (v := ?_) rfl (by kernel_rfl) (by kernel_rfl) (by kernel_rfl) (fun _ _ _ h => h) (Or.inl ⟨by kernel_rfl, ?_⟩) hHeld ?_
              rotate_left
              · intro wz hSw
                try dsimp only at hSw
                first
                | (go_simp; done)
                | (go_simp; with_reducible rfl)
              try simp only [Act.put, List.setIfInBounds_toArray, List.set_cons_zero, List.set_cons_succ]
              refine wpAnyH_take (i := 4) (v := .bool true) rfl (by kernel_rfl) (by kernel_rfl) (by kernel_rfl) (fun _ _ _ h => h) (Or.inl ⟨by kernel_rfl, ?_⟩) hHeld ?_
              · intro wz hSw
                try dsimp only at hSw
                first
                | (go_simp; done)
                | (go_simp; exact hjb)
                | (go_simp; exact hjq)
                | (go_simp; rw [hjb])
                | (simp [hjb]; done)
              try simp only [Act.put, List.setIfInBounds_toArray, List.set_cons_zero, List.set_cons_succ]
              refine wpAnyH_take (i := 5) (v := ?_) rfl (by kernel_rfl) (by kernel_rfl) (by kernel_rfl) (fun _ _ _ h => h) (Or.inl ⟨by kernel_rfl, ?_⟩) hHeld ?_
              rotate_left
              · intro wz hSw
                try dsimp only at hSw
                first
                | (go_simp; done)
                | (go_simp; with_reducible rfl)
              try simp only [Act.put, List.setIfInBounds_toArray, List.set_cons_zero, List.set_cons_succ]
              refine wpAnyH_take (i := 6) (v := ?_) rfl (by kernel_rfl) (by kernel_rfl) (by kernel_rfl) (fun _ _ _ h => h) (Or.inl ⟨by kernel_rfl, ?_⟩) hHeld ?_
              rotate_left
              · intro wz hSw
                try dsimp only at hSw
                first
                | (go_simp; done)
                | (go_simp; with_reducible rfl)
              try simp only [Act.put, List.setIfInBounds_toArray, List.set_cons_zero, List.set_cons_succ]
              refine wpAnyH_take (i := 7) (v := ?_) rfl (by kernel_rfl) (by kernel_rfl) (by kernel_rfl) (fun _ _ _ h => h) (Or.inl ⟨by kernel_rfl, ?_⟩) hHeld ?_
              rotate_left
              · intro wz hSw
                try dsimp only at hSw
                first
                | (go_simp; done)
                | (go_simp; with_reducible rfl)
              try simp only [Act.put, List.setIfInBounds_toArray, List.set_cons_zero, List.set_cons_succ]
              refine wpAnyH_take (i := 8) (v := ?_) rfl (by kernel_rfl) (by kernel_rfl) (by kernel_rfl) (fun _ _ _ h => h) (Or.inl ⟨by kernel_rfl, ?_⟩) hHeld ?_
              rotate_left
              · intro wz hSw
                try dsimp only at hSw
                first
                | (go_simp; done)
                | (go_simp; with_reducible rfl)
              try simp only [Act.put, List.setIfInBounds_toArray, List.set_cons_zero, List.set_cons_succ]
              refine wpAnyH_take (i := 9) (v := ?_) rfl (by kernel_rfl) (by kernel_rfl) (by kernel_rfl) (fun _ _ _ h => h) (Or.inl ⟨by kernel_rfl, ?_⟩) hHeld ?_
              rotate_left
              · intro wz hSw
                try dsimp only at hSw
                first
                | (go_simp; done)
                | (go_simp; with_reducible rfl)
              try simp only [Act.put, List.setIfInBounds_toArray, List.set_cons_zero, List.set_cons_succ]
              refine wpAnyH_take (i := 10) (v := ?_) rfl (by kernel_rfl) (by kernel_rfl) (by kernel_rfl) (fun _ _ _ h => h) (Or.inl ⟨by kernel_rfl, ?_⟩) hHeld ?_
              rotate_left
              · intro wz hSw
                try dsimp only at hSw
                first
                | (go_simp; done)
                | (go_simp; with_reducible rfl)
              try simp only [Act.put, List.setIfInBounds_toArray, List.set_cons_zero, List.set_cons_succ]
              refine wpAnyH_take (i := 11) (v := ?_) rfl (by kernel_rfl) (by kernel_rfl) (by kernel_rfl) (fun _ _ _ h => h) (Or.inl ⟨by kernel_rfl, ?_⟩) hHeld ?_
              rotate_left
              · intro wz hSw
                try dsimp only at hSw
                first
                | (go_simp; done)
                | (go_simp; with_reducible rfl)
              try simp only [Act.put, List.setIfInBounds_toArray, List.set_cons_zero, List.set_cons_succ]
              refine wpAnyH_take (i := 12) (v := ?_) rfl (by kernel_rfl) (by kernel_rfl) (by kernel_rfl) (fun _ _ _ h => h) (Or.inl ⟨by kernel_rfl, ?_⟩) hHeld ?_
              rotate_left
              · intro wz hSw
                try dsimp only at hSw
                first
                | (go_simp; done)
                | (go_simp; with_reducible rfl)
              try simp only [Act.put, List.setIfInBounds_toArray, List.set_cons_zero, List.set_cons_succ]
              refine wpAnyH_take (i := 13) (v := ?_) rfl (by kernel_rfl) (by kernel_rfl) (by kernel_rfl) (fun _ _ _ h => h) (Or.inl ⟨by kernel_rfl, ?_⟩) hHeld ?_
              rotate_left
              · intro wz hSw
                try dsimp only at hSw
                first
                | (go_simp; done)
                | (go_simp; with_reducible rfl)
              try simp only [Act.put, List.setIfInBounds_toArray, List.set_cons_zero, List.set_cons_succ]
              refine wpAnyH_ready (rs := [14]) (by kernel_rfl) (by simp) ?_
              refine AllReadyH.cons rfl (fun K hK => ?_) AllReadyH.nil
              go_simp
              go_at_call 70
              refine (specCoversG_v p1 q1 p2 q2 _ lp1 lq1 lp2 lq2 HCN.out).mono ?_
              rintro e w8 ⟨rfl, hb⟩
              have y1_8 := keep1 hb y1_7
              have y2_8 := keep1 hb y2_7
              have z1_8 := keep1 hb z1_7
              have z2_8 := keep1 hb z2_7
              have HX8 := Lib.hid (own_below HX7.out hb)
              have HL8 : Hid (Below G w3 w8) := Lib.hid (HL7.out.trans (hb.mono hG7))
              have hG8 : G ≤ w8.heap.size := by have := hb.size; omega
              clear hb
              refine hK.out _ _ ⟨y1_8, y2_8, z1_8, z2_8⟩ (fun hHeld => ?_)
              clear hK K
              try simp only [Act.put, List.setIfInBounds_toArray, List.set_cons_zero, List.set_cons_succ]
              refine wpAnyH_take (i := 15) (v := ?_) rfl (by kernel_rfl) (by kernel_rfl) (by kernel_rfl) (fun _ _ _ h => h) (Or.inl ⟨by kernel_rfl, ?_⟩) hHeld ?_
              rotate_left
              · intro wz hSw
                try dsimp only at hSw
                first
                | (go_simp; done)
                | (go_simp; with_reducible rfl)
              try simp only [Act.put, List.setIfInBounds_toArray, List.set_cons_zero, List.set_cons_succ]
              refine wpAnyH_take (i := 16) (v := ?_) rfl (by kernel_rfl) (by kernel_rfl) (by kernel_rfl) (fun _ _ _ h => h) (Or.inl ⟨by kernel_rfl, ?_⟩) hHeld ?_
              rotate_left
              · intro wz hSw
                try dsimp only at hSw
                first
                | (go_simp; done)
                | (go_simp; with_reducible rfl)
              try simp only [Act.put, List.setIfInBounds_toArray, List.set_cons_zero, List.set_cons_succ]
              refine wpAnyH_take (i := 17) (v := ?_) rfl (by kernel_rfl) (by kernel_rfl) (by kernel_rfl) (fun _ _ _ h => h) (Or.inl ⟨by kernel_rfl, ?_⟩) hHeld ?_
              rotate_left
              · intro wz hSw
                try dsimp only at hSw
                first
                | (go_simp; done)
                | (go_simp; with_reducible rfl)
              try simp only [Act.put, List.setIfInBounds_toArray, List.set_cons_zero, List.set_cons_succ]
              refine wpAnyH_done (by kernel_rfl) ?_ _
              try go_simp
              go_wp2
              go_roundw
              case rel => exact ⟨j + 1, by omega, by go_num, by rw [HC1.out], HX8, HL8, hG8⟩
              case measure => simp [intOf]; omega
            · obtain rfl : j = arms.length := by omega
              have hj9 : ¬ (arms.length : Int) < (arms.length : Int) := by omega
              generalize hcv : covIx arms i arms.length = cv at *
              have HCI := Lib.hid hcv
              clear hcv
              cases cv
              · have HE : Hid (grTo arms (i + 1) = gs ++ [⟨(p2 : Int), (q2 : Int)⟩]) := Lib.hid (by rw [HGS.out, HAI2.out]; rfl)
                obtain ⟨b2, o2, hA, hbb2, z1, z2⟩ := (HA3.out.below HL6.out).at_ hli
                subst hA
                rw [hp2] at z1
                rw [hq2] at z2
                have hsl := HA3.out.max
                have hsc := HA3.out.cap
                unfold maxLen at hsl
                go_wp2_with (at_builtin; refine wpList_app_Ag rfl _ _ rfl _ _ _ _ rfl HX6.out _ _ _ _ rfl (by first | rfl | simp) (by omega) hG6 ?_; intro v' w9 ho hb hg; have HX9 := Lib.hid ho; have HL9 : Hid (Below G w3 w9) := Lib.hid (HL6.out.trans hb); have hG9 : G ≤ w9.heap.size := (by have := hg.size; omega); clear ho hb hg)
                go_roundw
                case rel => exact ⟨i + 1, by omega, by go_num, Lib.hid (by rw [HE.out]; have h := HX9.out; rw [List.length_append]; simpa [flatA, encA] using h), HL9, hG9⟩
                case measure => simp [intOf]; omega
              · have HE : Hid (grTo arms (i + 1) = gs) := Lib.hid (by rw [HGS.out]; simp)
                go_wp2
                go_roundw
                case rel => exact ⟨i + 1, by omega, by go_num, Lib.hid (by rw [HE.out]; exact HX6.out), HL6, hG6⟩
                case measure => simp [intOf]; omega
        · obtain rfl : i = arms.length := by omega
          have hi9 : ¬ (arms.length : Int) < (arms.length : Int) := by omega
          obtain ⟨AX, cX, hvx⟩ := own_form HX5.out
          subst hvx
          have HGI : Hid (mGreat ds b list = grTo arms arms.length) := Lib.hid HM.out
          go_wp2
          go_ret
          rw [HGI.out]
          exact ⟨AX, cX, rfl, own_base HX5.out hwG, HB3.out.trans (HL5.out.mono hwG)⟩
end Go.Proofs.Ytpmanbmhbfnefaa

namespace Go.Proofs.Ytpmanbmhbfnefaa
open Go.RowKit Go.Maps
set_option linter.unusedVariables false
set_option linter.unusedSimpArgs false
set_option maxRecDepth 100000

/-! ### the program's greatest arms -/
def gtN (p q r s : Nat) : Bool := !(decide (p = r) && decide (q = s)) && coverN p q r s
set_option maxHeartbeats 2000000 in
theorem isGreater_any (p q r s B : Nat) (w : World) (hp : p < 4096) (hq : q < 4096) (hr : r < 4096) (hs : s < 4096) (h0 : w.cell? ⟨B, 0, none⟩ = some (.int .i64 r)) (h1 : w.cell? ⟨B, 1, none⟩ = some (.int .i64 s)) {v : Bool} (hv : gtN p q r s = v) :
    Calls Try.prog 76 #[.agg #[.int .i64 p, .int .i64 q], .pointer (some ⟨B, 0, none⟩)] w fun e w' => e = .returned (.bool v) ∧ Below w.heap.size w w' := by
  have hb : Below w.heap.size w (w.alloc (.cells #[.int .i64 p, .int .i64 q] 72)) := (Below.refl _ _).alloc (Nat.le_refl _) _
  have c0 := keep1 hb h0
  have c1 := keep1 hb h1
  have HB := Lib.hid hb
  clear hb h0 h1
  by_cases he : p = r
  · subst he
    by_cases he : q = s
    · subst he
      have HV : Hid (false = v) := Lib.hid (by rw [← hv]; unfold gtN; simp)
      clear hv
      go_enter Try.func76, Try.ntmps76
      go_wp2
      go_ret
      exact ⟨ret_bool HV.out, HB.out⟩
    have HV : Hid (coverN p q p s = v) := Lib.hid (by rw [← hv]; unfold gtN; rw [decide_eq_false he, Bool.and_false]; rfl)
    have hne : ¬ (q : Int) = (s : Int) := by omega
    have hne2 : ((q : Int) == (s : Int)) = false := by rw [beq_eq_false_iff_ne]; omega
    clear hv
    go_enter Try.func76, Try.ntmps76
    go_wp2_with fail
    go_at_call 77
    refine (armCovers_v _ _ _ _ _ hp hq hr hs HV.out).mono ?_
    rintro e w1 ⟨rfl, hb⟩
    have HB1 := Lib.hid (HB.out.trans (hb.mono HB.out.size))
    clear hb
    go_wp2
    go_ret
    exact ⟨rfl, HB1.out⟩
  · have HV : Hid (coverN p q r s = v) := Lib.hid (by rw [← hv]; unfold gtN; rw [decide_eq_false he, Bool.false_and]; rfl)
    have hne : ¬ (p : Int) = (r : Int) := by omega
    have hne2 : ((p : Int) == (r : Int)) = false := by rw [beq_eq_false_iff_ne]; omega
    clear hv
    go_enter Try.func76, Try.ntmps76
    go_wp2_with fail
    go_at_call 77
    refine (armCovers_v _ _ _ _ _ hp hq hr hs HV.out).mono ?_
    rintro e w1 ⟨rfl, hb⟩
    have HB1 := Lib.hid (HB.out.trans (hb.mono HB.out.size))
    clear hb
    go_wp2
    go_ret
    exact ⟨rfl, HB1.out⟩

def gtA (a b : Ar) : Bool := !eqA b a && covA b a
theorem covV_is (arms : List Ar) (a : Ar) : covV arms a = arms.any (gtA a) := rfl
theorem gtA_is {a b : Ar} {p q r s : Nat} (h1 : b.all = p) (h2 : b.non = q) (h3 : a.all = r) (h4 : a.non = s) : gtA a b = gtN p q r s := by
  unfold gtA gtN eqA covA
  rw [h1, h2, h3, h4]
  simp only [Int.toNat_natCast, Int.natCast_inj]

set_option maxHeartbeats 2000000 in
theorem idxGr_v (rs : List Ar) (a : Ar) (A : Option Addr) (n c : Nat) (w : World) (hr : SA w w.heap.size A n c rs) (hin : ∀ a ∈ rs, ArN a) (ha : ArN a) (B : Nat) (h0 : w.cell? ⟨B, 0, none⟩ = some (.int .i64 a.all)) (h1 : w.cell? ⟨B, 1, none⟩ = some (.int .i64 a.non)) {v : Int} (hv : fidx (gtA a) rs = v) :
    Calls Try.prog 103 #[.slice A n c, .func (.func 76) #[] #[.pointer (some ⟨B, 0, none⟩)]] w fun e w' => e = .returned (.int .i64 v) ∧ Below w.heap.size w w' := by
  subst hv
  obtain rfl := hr.len
  have hl := hr.max
  have hl2 := hr.cap
  unfold maxLen at hl
  obtain ⟨r, s, e1, e2, hr4, hs4⟩ := ha
  have HE1 := Lib.hid e1
  have HE2 := Lib.hid e2
  rw [e1] at h0
  rw [e2] at h1
  have HC0 := Lib.hid h0
  have HC1 := Lib.hid h1
  have HR := Lib.hid hr
  have HIN := Lib.hid hin
  clear hr hin e1 e2 h0 h1
  go_enter Try.func103, Try.ntmps103
  go_wp2
  go_loopw [8] (fun i wr => ∃ k : Nat, k ≤ rs.length ∧ i = .int .i64 k ∧ Hid (noTo (gtA a) rs k) ∧ Hid (Below w.heap.size w wr)) (fun i _ => rs.length - (intOf i).toNat)
  case atStart => exact ⟨0, Nat.zero_le _, rfl, Lib.hid (noTo_zero _ _), Lib.hid (Below.refl _ _)⟩
  case round =>
    obtain ⟨k, hk, rfl, hok, hbel⟩ := hrel
    by_cases hlt : k < rs.length
    · obtain ⟨b, o, rfl, hb, c1, c2⟩ := (HR.out.below hbel.out).at_ hlt
      obtain ⟨x, y, h1, h2, hx4, hy4⟩ := HIN.out _ (List.getElem_mem hlt)
      have hi1 : (k : Int) < (rs.length : Int) := by omega
      have HP0 := Lib.hid (gtA_is (a := a) h1 h2 HE1.out HE2.out)
      rw [h1] at c1
      rw [h2] at c2
      clear h1 h2
      have HD0 := Lib.hid (keep1 hbel.out HC0.out)
      have HD1 := Lib.hid (keep1 hbel.out HC1.out)
      cases hp : gtN x y r s
      all_goals
        have HP := Lib.hid hp
        clear hp
        go_wp2_with (go_at_call 76; refine (isGreater_any x y r s B _ hx4 hy4 hr4 hs4 HD0.out HD1.out HP.out).mono ?_; rintro e w1 ⟨rfl, hb1⟩; have HB1 := Lib.hid hb1; clear hb1)
      · go_roundw
        case rel => exact ⟨k + 1, by omega, by go_num, Lib.hid (noTo_succ hok.out hlt (by rw [HP0.out]; exact HP.out)), Lib.hid (hbel.out.trans (HB1.out.mono hbel.out.size))⟩
        case measure => simp [intOf]; omega
      · go_ret
        exact ⟨ret_int (fidx_some hok.out hlt (by rw [HP0.out]; exact HP.out)).symm, hbel.out.trans (HB1.out.mono hbel.out.size)⟩
    · obtain rfl : k = rs.length := by omega
      go_wp2
      go_ret
      exact ⟨ret_int (fidx_none hok.out).symm, hbel.out⟩
set_option maxHeartbeats 1000000 in
theorem anyGr_v (rs : List Ar) (a : Ar) (A : Option Addr) (n c : Nat) (w : World) (hr : SA w w.heap.size A n c rs) (hin : ∀ a ∈ rs, ArN a) (ha : ArN a) (B : Nat) (h0 : w.cell? ⟨B, 0, none⟩ = some (.int .i64 a.all)) (h1 : w.cell? ⟨B, 1, none⟩ = some (.int .i64 a.non)) {v : Bool} (hv : covV rs a = v) :
    Calls Try.prog 75 #[.slice A n c, .func (.func 76) #[] #[.pointer (some ⟨B, 0, none⟩)]] w fun e w' => e = .returned (.bool v) ∧ Below w.heap.size w w' := by
  have hd := fidx_any (gtA a) rs
  rw [← covV_is, hv] at hd
  obtain ⟨x, hx⟩ : ∃ x, fidx (gtA a) rs = x := ⟨_, rfl⟩
  rw [hx] at hd
  have HX := Lib.hid hx
  have HR := Lib.hid hr
  have HIN := Lib.hid hin
  have HA := Lib.hid ha
  have HC0 := Lib.hid h0
  have HC1 := Lib.hid h1
  clear hx hr hin ha h0 h1 hv
  by_cases h : x < 0
  · have hvf : v = false := by rw [decide_eq_true h] at hd; cases v; rfl; cases hd
    have HV := Lib.hid hvf
    clear hd hvf
    go_enter Try.func75, Try.ntmps75
    go_wp2_with (go_at_call 103; refine (idxGr_v rs a _ _ _ _ HR.out HIN.out HA.out B HC0.out HC1.out HX.out).mono ?_; rintro e w1 ⟨rfl, hb1⟩; have HB1 := Lib.hid hb1; clear hb1)
    go_ret
    exact ⟨ret_bool (by first | (rw [HV.out]; done) | (rw [HV.out]; simp; done) | (rw [HV.out]; simp; omega)), HB1.out⟩
  · have hvf : v = true := by rw [decide_eq_false h] at hd; cases v; cases hd; rfl
    have HV := Lib.hid hvf
    clear hd hvf
    go_enter Try.func75, Try.ntmps75
    go_wp2_with (go_at_call 103; refine (idxGr_v rs a _ _ _ _ HR.out HIN.out HA.out B HC0.out HC1.out HX.out).mono ?_; rintro e w1 ⟨rfl, hb1⟩; have HB1 := Lib.hid hb1; clear hb1)
    go_ret
    exact ⟨ret_bool (by first | (rw [HV.out]; done) | (rw [HV.out]; simp; done) | (rw [HV.out]; simp; omega)), HB1.out⟩
end Go.Proofs.Ytpmanbmhbfnefaa

namespace Go.Proofs.Ytpmanbmhbfnefaa
open Go.RowKit Go.Maps
set_option linter.unusedVariables false
set_option maxRecDepth 100000

/-! ### the zero value of an array of 4096 bools -/
theorem fl2 {x y : List Value} {v : Value} {n : Nat} (a : Nat) (hn : n = a + a) (h1 : x = List.replicate a v) (h2 : y = List.replicate a v) : List.append x y = List.replicate n v := by
  subst hn h1 h2
  exact List.replicate_append_replicate
set_option maxHeartbeats 4000000 in
theorem zero4096 : Try.t114.zero = some (.agg (List.replicate 4096 (.bool false)).toArray) := by
  delta Try.t114
  refine congrArg (fun l => some (Value.agg (List.toArray l))) ?_
  refine fl2 2048 rfl ?_ ?_
  all_goals refine fl2 1024 rfl ?_ ?_
  all_goals refine fl2 512 rfl ?_ ?_
  all_goals refine fl2 256 rfl ?_ ?_
  all_goals refine fl2 128 rfl ?_ ?_
  all_goals refine fl2 64 rfl ?_ ?_
  all_goals rfl
theorem info4096 : Try.prog.info? 114 = some Try.t114 := by kernel_rfl
theorem size4096 : Try.t114.size = 4096 := rfl
theorem zeroV : ∃ zv : Array Value, Try.t114.zero = some (.agg zv) ∧ ∀ j, j < 4096 → zv[j]? = some (.bool false) := by
  refine ⟨_, zero4096, fun j hj => ?_⟩
  rw [List.getElem?_toArray, List.getElem?_replicate, if_pos hj]
section
variable {P : Program} {ops : Array Oper} {rest : List Oper} {o : Oper} {a : Act} {w : World} {Q : Exit → Act → World → Prop}
theorem wpList_allocBig (hg : o.guard = none) (t : TypeId) (ho : o.op = .alloc t) (i : TypeInfo) (hi : P.info? t = some i) (zv : Array Value) (hz : i.zero = some (.agg zv))
    (h : wpList P ops Q rest (a.put o.dst (.pointer (some ⟨w.heap.size, 0, none⟩))) (w.alloc (.cells zv t))) : wpList P ops Q (o :: rest) a w := by
  refine wpList_plain hg fun K hK => ?_
  unfold Oper.wp execOp
  simp only [ho, Sem.run_bind, Instr.alloc, zeroValue, typeInfo, program, Sem.run, hi, hz, newVar, newRow, Value.cells, run_newObj_alloc, Sem.run_pure, Result.andThen_ok]
  exact hK _ _ h
theorem run_loadBig (t : TypeId) (i : TypeInfo) (n : Nat) (e : TypeId) (hu : P.underlying t = some (.array n e)) (hi : P.info? t = some i) (hn : i.size = n) (g : Nat) (F : Nat → Bool)
    (h : ∀ j, j < n → w.cell? ⟨g, j, none⟩ = some (.bool (F j))) : (Instr.loadAt t (.pointer (some ⟨g, 0, none⟩))).run P w = .ok (.agg ((List.range n).map fun j => Value.bool (F j)).toArray) w := by
  have h2 := run_loadCells (P := P) w ⟨g, 0, none⟩ n (fun j => .bool (F j)) (fun j hj => by
    rcases Nat.eq_zero_or_pos j with rfl | h0
    · exact h 0 hj
    · have := h j hj
      simpa [Addr.add, Nat.ne_of_gt h0] using this)
  simp only [Instr.loadAt, loadVar, isAgg, underlying, sizeOf, typeInfo, program, Instr.sureAddr, Sem.run_bind, Sem.run, hu, hi, hn, Sem.run_pure, Result.andThen_ok, if_true]
  first
  | (rw [h2]; rfl)
  | (go_simp; rw [h2]; rfl)
  | (simp [h2, Sem.run]; done)
end
end Go.Proofs.Ytpmanbmhbfnefaa

namespace Go.Proofs.Ytpmanbmhbfnefaa
open Go.RowKit Go.Maps
set_option linter.unusedVariables false
set_option linter.unusedSimpArgs false
set_option maxRecDepth 100000

/-! ### the program's GreatestArms -/
theorem mArms_nil (ds : List D) (b : Int) : mArms ds b [] = vFlag ds b := by unfold mArms; simp
theorem mIsV_mask {ds : List D} {b : Int} (h : vFlag ds b = true) : mIsV ds b ((mMask ds : Nat) : Int) = true := by
  have h4 := mMask_lt12 (vFlag_in h)
  unfold mIsV
  rw [h, Int.toNat_natCast, decide_eq_true (show (0 : Int) ≤ (mMask ds : Int) by omega), decide_eq_true (show ((mMask ds : Nat) : Int) ≤ 4095 by omega), decide_eq_true (show nl (mMask ds) (mMask ds) = 0 from nl_zero.2 fun i hi => hi)]
  simp
theorem okG_wild {x : Int} (hx : I64 x) {k : Nat} (hk : k < 4096) : decide (bits .andNot .i64 x (k : Int) = 0) = okG k x := by
  have h : bits .andNot .i64 x (k : Int) = 0 ↔ nl (BitVec.ofInt 64 x).toNat k = 0 := by
    show IntKind.i64.wrap ((BitVec.ofInt 64 x &&& ~~~BitVec.ofInt 64 (k : Int)).toNat : Int) = 0 ↔ _
    rw [wrap_zero, toNat_andNot _ k hk]
  unfold okG
  rw [Bool.eq_iff_iff]
  simp only [decide_eq_true_eq, Bool.and_eq_true]
  rw [h]
  constructor
  · intro h1
    have a1 := part_le h1
    obtain ⟨b1, c1⟩ := toNat_of_small hx (by omega)
    rw [c1] at h1 a1
    exact ⟨⟨b1, by omega⟩, h1⟩
  · rintro ⟨⟨b1, _⟩, h1⟩
    rw [toNat_of_pos hx b1]
    exact h1
theorem flatW_is (m : Nat) (list : List Int) : ((partsTo m (m + 1)).flatMap fun p => rowW (partsTo m (m + 1)) list p (partsTo m (m + 1))) = mArmsIn m list := by
  unfold mArmsIn armsA
  rw [List.flatMap_def, List.flatMap_def]
  congr 1
  apply List.map_congr_left
  intro p hp
  obtain ⟨t, rfl, _⟩ := partsG_mem hp
  exact rowW_is m t list
/-- A box of 4096 bools that can be written. -/
structure BF (w : World) (g : Nat) (F : Nat → Bool) : Prop where
  b : BX w g F
  f : ∀ j, j < 4096 → w.frozen? ⟨g, j, none⟩ = false
theorem BF.low {w w' : World} {g B : Nat} {F : Nat → Bool} (h : BF w g F) (hb : Below B w w') (hg : g < B) : BF w' g F :=
  ⟨h.b.low hb hg, fun j hj => (hb.frozen (p := ⟨g, j, none⟩) hg).trans (h.f j hj)⟩
theorem BF.below {w w' : World} {g : Nat} {F : Nat → Bool} (h : BF w g F) (hb : Below w.heap.size w w') : BF w' g F := h.low hb h.b.lt
theorem bf_new (w : World) (wv : Array Value) (t : TypeId) (F : Nat → Bool) (h : ∀ j, j < 4096 → wv[j]? = some (.bool (F j))) : BF (w.alloc (.cells wv t)) w.heap.size F :=
  ⟨bx_new w wv t F h, fun j hj => by simp [go_sem]⟩
theorem BF.set {w : World} {g : Nat} {F : Nat → Bool} (h : BF w g F) {i : Nat} (hi : i < 4096) {G : Nat → Bool} (hG : ∀ j, j < 4096 → G j = if j = i then true else F j) : BF (w.setCell ⟨g, i, none⟩ (.bool true)) g G := by
  refine ⟨⟨fun j hj => ?_, by simpa using h.b.lt⟩, fun j hj => by rw [fro_set]; exact h.f j hj⟩
  rw [hG j hj]
  by_cases e : j = i
  · subst e; rw [if_pos rfl]; exact World.cell?_setCell_same' _ _ _ (by rw [h.b.c j hj]; rfl)
  · rw [if_neg e]; exact (World.cell?_setCell_other w _ _ _ (fun e => by injection e with _ e2; first | omega | exact absurd e2 (by omega))).trans (h.b.c j hj)
theorem exec_load {P : Program} {w : World} {o : Oper} {ρ : Operand → Value} {t : TypeId} {x : Operand} {p v : Value} (ho : o.op = .load t x) (hx : ρ x = p) (h : (Instr.loadAt t p).run P w = .ok v w) : (execOp ρ o).run P w = .ok (.value v) w := by
  unfold execOp
  simp only [ho, hx, Sem.run_bind, h, Sem.run_pure, Result.andThen_ok]
def seenG (list : List Int) (j t : Nat) : Bool := (list.take j).any fun y => decide (y = (t : Int))
theorem seenG_succ {list : List Int} {j : Nat} (hj : j < list.length) (t : Nat) {x : Nat} (hx : list[j] = (x : Int)) : seenG list (j + 1) t = if t = x then true else seenG list j t := by
  unfold seenG
  rw [any_take_succ _ _ _ hj, hx]
  by_cases e : t = x
  · subst e; rw [if_pos rfl]; simp
  · rw [if_neg e, decide_eq_false (by omega), Bool.or_false]
def grV (arms : List Ar) (j : Nat) : List Ar := (arms.take j).filter fun a => !covV arms a
theorem grV_succ {arms : List Ar} {j : Nat} (hj : j < arms.length) : grV arms (j + 1) = grV arms j ++ if covV arms arms[j] then [] else [arms[j]] := by
  unfold grV
  rw [List.take_succ_eq_append_getElem hj, List.filter_append]
  congr 1
  rw [List.filter_cons, List.filter_nil]
  cases covV arms arms[j] <;> rfl
theorem grV_len (arms : List Ar) (j : Nat) : (grV arms j).length ≤ j := by
  unfold grV
  have h1 := List.length_filter_le (fun a => !covV arms a) (arms.take j)
  have h2 : (arms.take j).length ≤ j := by rw [List.length_take]; omega
  omega
theorem grV_all (arms : List Ar) : grV arms arms.length = mGrV arms := by unfold grV mGrV; rw [List.take_of_length_le (Nat.le_refl _)]

set_option maxHeartbeats 16000000 in
theorem implGreat_any (ds : List D) (b : Int) (list : List Int) (A : Option Addr) (m c : Nat) (w : World) (hr : SD w w.heap.size A m c ds) (Bs : Option Addr) (q cs : Nat) (hs : SI w w.heap.size Bs q cs list) (hn : m ≤ 1048576) :
    Calls Try.prog 28 #[.agg #[.slice A m c, .int .i64 b], .slice Bs q cs] w (ArmsP (mGreat ds b list) w) := by
  have hl := hs.max
  have hl2 := hs.cap
  unfold maxLen at hl
  obtain rfl := hs.len
  have HF := Lib.hid (FB.start hr b)
  have HS : Hid (SI (w.alloc (.cells #[.slice A m c, .int .i64 b] 58)) w.heap.size Bs list.length cs list) := Lib.hid (hs.below HF.out.bel)
  clear hr hs
  cases hv : vFlag ds b
  · have HM : Hid (mGreat ds b list = []) := Lib.hid (mGreat_no (by rw [mGrOk_is, hv]; rfl))
    have HV : Hid (mArms ds b [] = false) := Lib.hid (by rw [mArms_nil, hv])
    have HR2 : Hid ((if mArms ds b [] then ((mMask ds : Nat) : Int) else 0) = 0) := Lib.hid (if_no HV.out)
    clear hv
    have c0 := HF.out.c0
    have c1 := HF.out.c1
    go_enter Try.func28, Try.ntmps28
    go_wp2_with fail
    generalize (w.alloc (.cells #[.slice A m c, .int .i64 b] 58)) = w0 at *
    refine (armsMask_v ds b [] _ _ _ _ HF.out.sd none 0 0 (SA.none_ _ _) hn HV.out HR2.out).mono ?_
    rintro e w1 ⟨rfl, hb⟩
    have HB1 := Lib.hid (HF.out.after hb)
    clear hb c0 c1
    go_wp2
    go_ret
    exact ⟨none, 0, by rw [HM.out]; rfl, by rw [HM.out]; exact World.ownsRow_nil _ _ _ _, HB1.out⟩
  obtain ⟨k, hk⟩ : ∃ k, mMask ds = k := ⟨_, rfl⟩
  have hk4 : k < 4096 := by rw [← hk]; exact mMask_lt12 (vFlag_in hv)
  have HIV : Hid (mIsV ds b (k : Int) = true) := Lib.hid (by rw [← hk]; exact mIsV_mask hv)
  have HOKE : Hid (mGrOk ds b list = (decide (popc k ≤ 6) && decide (list.length ≤ 64) && list.all (okG k))) := Lib.hid (by rw [mGrOk_is, hv, hk, Bool.true_and])
  have HGR : Hid (mGrOk ds b list = true → mGreat ds b list = mGrV (mArmsIn k list)) := Lib.hid (fun h => by rw [mGreat_V, h, if_pos rfl, hk])
  have HV : Hid (mArms ds b [] = true) := Lib.hid (by rw [mArms_nil, hv])
  have HR2 : Hid ((if mArms ds b [] then ((mMask ds : Nat) : Int) else 0) = (k : Int)) := Lib.hid (by rw [HV.out, if_pos rfl, hk])
  obtain ⟨pc, hpc⟩ : ∃ x, popc k = x := ⟨_, rfl⟩
  have HPC := Lib.hid hpc
  have HMC : Hid (mCount ds b (k : Int) = (pc : Int)) := Lib.hid (by unfold mCount; rw [HIV.out, if_pos rfl, Int.toNat_natCast, hpc])
  rw [hpc] at HOKE
  clear hv hk hpc
  have c0 := HF.out.c0
  have c1 := HF.out.c1
  go_enter Try.func28, Try.ntmps28
  go_wp2_with fail
  generalize (w.alloc (.cells #[.slice A m c, .int .i64 b] 58)) = w0 at *
  refine (armsMask_v ds b [] _ _ _ _ HF.out.sd none 0 0 (SA.none_ _ _) hn HV.out HR2.out).mono ?_
  rintro e w1 ⟨rfl, hb⟩
  have HF1 := Lib.hid (HF.out.call hb)
  have HS1 : Hid (SI w1 w.heap.size Bs list.length cs list) := Lib.hid (HS.out.below' hb HF.out.bel.size)
  clear hb c0 c1 HF HS
  have c0 := HF1.out.c0
  have c1 := HF1.out.c1
  by_cases h64 : list.length ≤ 64
  case neg =>
    have HM : Hid (mGreat ds b list = []) := Lib.hid (mGreat_no (by rw [HOKE.out, decide_eq_false h64, Bool.and_false]; rfl))
    have h64i : (64 : Int) < (list.length : Int) := by omega
    go_wp2
    go_ret
    exact ⟨none, 0, by rw [HM.out]; rfl, by rw [HM.out]; exact World.ownsRow_nil _ _ _ _, HF1.out.bel⟩
  have h64i : ¬ (64 : Int) < (list.length : Int) := by omega
  by_cases h6 : pc ≤ 6
  case neg =>
    have HM : Hid (mGreat ds b list = []) := Lib.hid (mGreat_no (by rw [HOKE.out, decide_eq_false h6]; rfl))
    have h6i : (6 : Int) < (pc : Int) := by omega
    go_wp2_with fail
    refine (implCount_v ds b k _ _ _ _ HF1.out.sd hn HMC.out).mono ?_
    rintro e w2 ⟨rfl, hb⟩
    have HB2 := Lib.hid (HF1.out.after hb)
    clear hb
    go_wp2
    go_ret
    exact ⟨none, 0, by rw [HM.out]; rfl, by rw [HM.out]; exact World.ownsRow_nil _ _ _ _, HB2.out⟩
  have h6i : ¬ (6 : Int) < (pc : Int) := by omega
  go_wp2_with fail
  refine (implCount_v ds b k _ _ _ _ HF1.out.sd hn HMC.out).mono ?_
  rintro e w2 ⟨rfl, hb⟩
  have HF2 := Lib.hid (HF1.out.call hb)
  have HS2 : Hid (SI w2 w.heap.size Bs list.length cs list) := Lib.hid (HS1.out.below' hb HF1.out.bel.size)
  clear hb c0 c1 HF1 HS1
  go_upto_region 4 with fail
  obtain ⟨zv, hz, hzv⟩ := zeroV
  refine wp_region_lit ?_
  refine wpList_allocBig rfl _ rfl _ info4096 zv hz ?_
  obtain ⟨w3, hw⟩ : ∃ W : World, W = (w2.alloc (.cells zv 114)) := ⟨_, rfl⟩
  obtain ⟨G, hG⟩ : ∃ g, w2.heap.size = g := ⟨_, rfl⟩
  have hb : Below w2.heap.size w2 w3 := by rw [hw]; exact (Below.refl _ _).alloc (Nat.le_refl _) _
  have HX_3 : Hid (BF w3 G (seenG list 0)) := Lib.hid (by rw [hw, ← hG]; exact bf_new w2 zv _ _ (fun j hj => by rw [hzv j hj]; rfl))
  have HF_3 := Lib.hid (HF2.out.call hb)
  have HS_3 : Hid (SI w3 w.heap.size Bs list.length cs list) := Lib.hid (HS2.out.below' hb HF2.out.bel.size)
  have hGw : w.heap.size + 1 ≤ G := by rw [← hG]; exact World.block_lt_of_cell? _ _ HF2.out.c0
  have HW3 : Hid ((w2.alloc (.cells zv 114)) = w3) := Lib.hid hw.symm
  rw [HW3.out, hG]
  clear hw hb hz hzv HF2 HS2 hG HW3
  go_wp2
  go_loopw [34] (fun i wr => ∃ j : Nat, j ≤ list.length ∧ i = .int .i64 j ∧ Hid ((list.take j).all (okG k) = true) ∧ Hid (BF wr G (seenG list j)) ∧ Hid (FB w wr w.heap.size A m c ds b) ∧ Hid (SI wr w.heap.size Bs list.length cs list)) (fun i _ => list.length - (intOf i).toNat)
  case atStart => exact ⟨0, Nat.zero_le _, rfl, Lib.hid rfl, HX_3, HF_3, HS_3⟩
  case round =>
    clear HX_3 HF_3 HS_3
    obtain ⟨j, hj, rfl, hok, HX_4, HF_4, HS_4⟩ := hrel
    by_cases hlt : j < list.length
    · obtain ⟨bb, o, hA, hbb, d1⟩ := HS_4.out.at_ hlt
      subst hA
      have hi1 : (j : Int) < (list.length : Int) := by omega
      have hi0 : (0 : Int) ≤ (j : Int) := by omega
      have HI64 : Hid (I64 list[j]) := Lib.hid (by have := HS_4.out.ok _ (List.getElem_mem hlt); unfold I64; omega)
      have HSN := Lib.hid (okG_snoc (k := k) hlt)
      have HBD : Hid (okG k list[j] = false → mGreat ds b list = []) := Lib.hid (fun h => mGreat_no (by rw [HOKE.out, okG_bad hlt h, Bool.and_false]))
      have HSE : Hid (∀ x : Nat, list[j] = (x : Int) → ∀ t, seenG list (j + 1) t = if t = x then true else seenG list j t) := Lib.hid (fun x hx t => seenG_succ hlt t hx)
      generalize list[j] = x at *
      have HW := Lib.hid (okG_wild HI64.out hk4)
      cases hx : okG k x
      · have HM : Hid (mGreat ds b list = []) := Lib.hid (HBD.out hx)
        have HX : Hid (decide (bits .andNot .i64 x (k : Int) = 0) = false) := Lib.hid (by rw [HW.out, hx])
        clear hx
        go_wp2_with (go_at_call 73; refine (bsHas_w k x _ HX.out).mono ?_; rintro e w5 ⟨rfl, rfl⟩)
        go_ret
        exact ⟨none, 0, by rw [HM.out]; rfl, by rw [HM.out]; exact World.ownsRow_nil _ _ _ _, HF_4.out.bel⟩
      · have HX : Hid (decide (bits .andNot .i64 x (k : Int) = 0) = true) := Lib.hid (by rw [HW.out, hx])
        have HP : Hid ((list.take (j + 1)).all (okG k) = true) := Lib.hid (by rw [HSN.out, hok.out, hx]; rfl)
        unfold okG at hx
        rw [Bool.and_eq_true, Bool.and_eq_true, decide_eq_true_iff, decide_eq_true_iff] at hx
        obtain ⟨t, rfl⟩ := Int.eq_ofNat_of_zero_le hx.1.1
        have ht4 : t < 4096 := by omega
        have ht0 : (0 : Int) ≤ (t : Int) := by omega
        have ht1 : (t : Int) < 4096 := by omega
        have HS5 := Lib.hid (HSE.out t rfl)
        clear hx
        have e0 := HX_4.out.b.c t ht4
        have f0 := HX_4.out.f t ht4
        go_wp2_with (go_at_call 73; refine (bsHas_w k t _ HX.out).mono ?_; rintro e w5 ⟨rfl, rfl⟩)
        go_roundw
        case rel => exact ⟨j + 1, by omega, by go_num, HP, Lib.hid (HX_4.out.set ht4 (fun j _ => HS5.out j)), Lib.hid (HF_4.out.set (by simp; omega) (by simp; omega) _), Lib.hid (HS_4.out.keep fun r => Rd.setCell r (by simp; omega) _)⟩
        case measure => simp [intOf]; omega
    · obtain rfl : j = list.length := by omega
      have hj9 : ¬ (list.length : Int) < (list.length : Int) := by omega
      have HM : Hid (mGreat ds b list = mGrV (mArmsIn k list)) := Lib.hid (HGR.out (by have h := hok.out; rw [List.take_of_length_le (Nat.le_refl _)] at h; rw [HOKE.out, h, decide_eq_true h6, decide_eq_true h64]; rfl))
      have hp6 : popc k ≤ 6 := by rw [HPC.out]; exact h6
      have HNAT := Lib.hid (arms_arN (list := list) hk4)
      have hal := mArmsIn_len (list := list) hp6
      have HMP : Hid (mParts ds b (k : Int) = partsTo k (k + 1)) := Lib.hid (by unfold mParts mPartsOk; rw [HIV.out, Int.toNat_natCast, decide_eq_true hp6]; rfl)
      have HIN : Hid (∀ x ∈ partsTo k (k + 1), ∃ t : Nat, x = (t : Int) ∧ t < 4096) := Lib.hid (fun x hx => by obtain ⟨t, e1, h1, _⟩ := partsG_mem hx; exact ⟨t, e1, by omega⟩)
      have hal64 := parts64 hp6
      have HSG : Hid (∀ t : Nat, t < 4096 → seenG list list.length t = list.any fun y => decide (y = (t : Int))) := Lib.hid (fun t _ => by unfold seenG; rw [List.take_of_length_le (Nat.le_refl _)])
      have HFW := Lib.hid (flatW_is k list)
      generalize seenG list list.length = F at *
      obtain ⟨av, hav⟩ : ∃ av, ((List.range 4096).map fun j => Value.bool (F j)).toArray = av := ⟨_, rfl⟩
      have HAV : Hid (∀ j, j < 4096 → av[j]? = some (.bool (F j))) := Lib.hid (fun j hj => by rw [← hav]; simp [hj])
      have HLB : Hid (∀ wz : World, (∀ j, j < 4096 → wz.cell? ⟨G, j, none⟩ = some (.bool (F j))) → (Instr.loadAt 114 (.pointer (some ⟨G, 0, none⟩))).run Try.prog wz = .ok (.agg av) wz) := Lib.hid (fun wz h => by rw [← hav]; exact run_loadBig _ _ 4096 4 Try.underlying114 info4096 size4096 G F h)
      clear hav
      generalize mArmsIn k list = arms at *
      generalize partsTo k (k + 1) = all at *
      have c0 := HF_4.out.c0
      have c1 := HF_4.out.c1
      have HC := Lib.hid HX_4.out.b.c
      obtain ⟨w4, hwn⟩ : ∃ W : World, W = wr := ⟨_, rfl⟩
      subst hwn
      go_upto_region 12 with fail
      refine wp_region_held_drew (S := fun w' => w'.cell? ⟨w.heap.size, 0, none⟩ = some (.slice A m c) ∧ w'.cell? ⟨w.heap.size, 1, none⟩ = some (.int .i64 b) ∧ Hid (∀ j, j < 4096 → w'.cell? ⟨G, j, none⟩ = some (.bool (F j)))) (by kernel_rfl) ⟨c0, c1, HC⟩ (fun hHeld => ?_)
      have hb : Below w4.heap.size w4 w4.drew := (Below.refl _ _).drew
      have HF_5 := Lib.hid (HF_4.out.call hb)
      have HX_5 := Lib.hid (HX_4.out.below hb)
      clear HF_4 HX_4 HS_4 hb c0 c1 HC
      generalize w4.drew = w5 at *
      refine wpAnyH_take (i := 0) (v := ?_) rfl (by kernel_rfl) (by kernel_rfl) (by kernel_rfl) (fun _ _ _ h => h) (Or.inl ⟨by kernel_rfl, ?_⟩) hHeld ?_
      rotate_left
      · intro wz hSw
        try dsimp only at hSw
        first
        | (go_simp; done)
        | (go_simp; with_reducible rfl)
      try simp only [Act.put, List.setIfInBounds_toArray, List.set_cons_zero, List.set_cons_succ]
      refine wpAnyH_take (i := 1) (v := ?_) rfl (by kernel_rfl) (by kernel_rfl) (by kernel_rfl) (fun _ _ _ h => h) (Or.inl ⟨by kernel_rfl, ?_⟩) hHeld ?_
      rotate_left
      · intro wz hSw
        try dsimp only at hSw
        first
        | (go_simp; done)
        | (go_simp; with_reducible rfl)
      try simp only [Act.put, List.setIfInBounds_toArray, List.set_cons_zero, List.set_cons_succ]
      refine wpAnyH_take (i := 3) (v := .agg av) rfl (by kernel_rfl) (by kernel_rfl) (by kernel_rfl) (fun _ _ _ h => h) (Or.inl ⟨by kernel_rfl, fun wz hSw => exec_load rfl rfl (HLB.out wz hSw.2.2.out)⟩) hHeld ?_
      try simp only [Act.put, List.setIfInBounds_toArray, List.set_cons_zero, List.set_cons_succ]
      refine wpAnyH_ready (rs := [2]) (by kernel_rfl) (by simp) ?_
      refine AllReadyH.cons rfl (fun K hK => ?_) AllReadyH.nil
      go_simp
      go_at_call 36
      refine (implParts_any ds b k _ _ _ _ HF_5.out.sd hn).mono ?_
      rintro e w6 ⟨Ap, cp, rfl, ho, hb⟩
      rw [HMP.out] at ho ⊢
      have HRG : Hid (∀ x ∈ all, -9223372036854775808 ≤ x ∧ x ≤ 9223372036854775807) := Lib.hid (fun x hx => by obtain ⟨t, e1, h1⟩ := HIN.out x hx; omega)
      have HS6 := Lib.hid (si_of_own ho HRG.out)
      have HF_6 := Lib.hid (HF_5.out.call hb)
      have HX_6 := Lib.hid (HX_5.out.below hb)
      clear ho hb HF_5 HX_5
      refine hK.out _ _ ⟨HF_6.out.c0, HF_6.out.c1, Lib.hid HX_6.out.b.c⟩ (fun hHeld => ?_)
      clear hK K
      try simp only [Act.put, List.setIfInBounds_toArray, List.set_cons_zero, List.set_cons_succ]
      refine wpAnyH_ready (rs := [4]) (by kernel_rfl) (by simp) ?_
      refine AllReadyH.cons rfl (fun K hK => ?_) AllReadyH.nil
      go_simp
      go_at_call 74
      refine (armsWithin_any all list Ap all.length cp av F _ HS6.out HIN.out hal64 HAV.out HSG.out HFW.out).mono ?_
      rintro e w7 ⟨Aa, ca, rfl, ho, hb⟩
      have HA7 := Lib.hid (sa_of_own ho (fun a ha => arN_ok (HNAT.out a ha)))
      have HF_7 := Lib.hid (HF_6.out.call hb)
      have HX_7 := Lib.hid (HX_6.out.below hb)
      clear ho hb HF_6 HX_6
      refine hK.out _ _ ⟨HF_7.out.c0, HF_7.out.c1, Lib.hid HX_7.out.b.c⟩ (fun hHeld => ?_)
      clear hK K
      try simp only [Act.put, List.setIfInBounds_toArray, List.set_cons_zero, List.set_cons_succ]
      refine wpAnyH_take (i := 5) (v := ?_) rfl (by kernel_rfl) (by kernel_rfl) (by kernel_rfl) (fun _ _ _ h => h) (Or.inl ⟨by kernel_rfl, ?_⟩) hHeld ?_
      rotate_left
      · intro wz hSw
        try dsimp only at hSw
        first
        | (go_simp; done)
        | (go_simp; with_reducible rfl)
      try simp only [Act.put, List.setIfInBounds_toArray, List.set_cons_zero, List.set_cons_succ]
      refine wpAnyH_done (by kernel_rfl) ?_ _
      try go_simp
      have HB7 := Lib.hid HF_7.out.bel
      clear hHeld HF_7 HX_7
      obtain ⟨G2, hG2⟩ : ∃ g, w7.heap.size = g := ⟨_, rfl⟩
      have HR7 : Hid (w7.ownsRow G2 72 2 (.slice none 0 0) (grV arms 0).length (flatA (grV arms 0))) := Lib.hid (World.ownsRow_nil _ _ _ _)
      have HL7 : Hid (Below G2 w7 w7) := Lib.hid (Below.refl _ _)
      have hg7 : G2 ≤ w7.heap.size := by omega
      have hwG : w.heap.size ≤ G2 := by rw [← hG2]; exact HB7.out.size
      rw [hG2] at HA7
      have HGG := Lib.hid hG2
      clear hG2
      have hsl := HA7.out.max
      have hsc := HA7.out.cap
      unfold maxLen at hsl
      go_wp2
      go_loopw [11, 52] (fun v i wr => ∃ j : Nat, j ≤ arms.length ∧ i = .int .i64 j ∧ Hid (wr.ownsRow G2 72 2 v (grV arms j).length (flatA (grV arms j))) ∧ Hid (Below G2 w7 wr) ∧ G2 ≤ wr.heap.size) (fun _ i _ => arms.length - (intOf i).toNat)
      case atStart => exact ⟨0, Nat.zero_le _, rfl, HR7, HL7, hg7⟩
      case round =>
        clear HR7 HL7 hg7
        obtain ⟨i, hi, rfl, HR8, HL8, hg8⟩ := hrel
        by_cases hli : i < arms.length
        · have HGS := Lib.hid (grV_succ hli)
          have hgl := grV_len arms i
          obtain ⟨AX, cX, hvx⟩ := own_form HR8.out
          subst hvx
          generalize hgr : grV arms i = gs at *
          have HGT := Lib.hid hgr
          clear hgr
          have hii : (i : Int) < (arms.length : Int) := by omega
          have hi0 : (0 : Int) ≤ (i : Int) := by omega
          have HAN := Lib.hid (HNAT.out _ (List.getElem_mem hli))
          obtain ⟨b1, o1, hA, hbb1, y1, y2⟩ := (HA7.out.below HL8.out).at_ hli
          subst hA
          obtain ⟨p2, q2, hp2, hq2, lp2, lq2⟩ := HNAT.out _ (List.getElem_mem hli)
          have HAI2 : Hid (arms[i] = ⟨(p2 : Int), (q2 : Int)⟩) := Lib.hid (by cases h : arms[i]; rw [h] at hp2 hq2; simp only at hp2 hq2; rw [hp2, hq2])
          rw [HAI2.out] at y1 y2 HGS HAN
          obtain ⟨cv, hcv⟩ : ∃ v, covV arms ⟨(p2 : Int), (q2 : Int)⟩ = v := ⟨_, rfl⟩
          have HCV := Lib.hid hcv
          rw [hcv] at HGS
          clear hcv hp2 hq2
          obtain ⟨w9, hw⟩ : ∃ W : World, W = (wr.alloc (.cells #[.int .i64 p2, .int .i64 q2] 72)) := ⟨_, rfl⟩
          obtain ⟨G3, hG3⟩ : ∃ g, wr.heap.size = g := ⟨_, rfl⟩
          have hb : Below wr.heap.size wr w9 := by rw [hw]; exact (Below.refl _ _).alloc (Nat.le_refl _) _
          have HD_9 : Hid (C2 w9 G3 (.int .i64 p2) (.int .i64 q2)) := Lib.hid (by rw [hw, ← hG3]; exact c2New _ _ _ _)
          have HW9 : Hid ((wr.alloc (.cells #[.int .i64 p2, .int .i64 q2] 72)) = w9) := Lib.hid hw.symm
          have HR9 := Lib.hid (own_below HR8.out hb)
          have HL9 : Hid (Below G2 w7 w9) := Lib.hid (HL8.out.trans (hb.mono hg8))
          have hg9 : G2 ≤ w9.heap.size := by have := hb.size; omega
          have HS9 : Hid (SA w9 w9.heap.size (some ⟨b1, o1, none⟩) arms.length ca arms) := Lib.hid ((HA7.out.below HL9.out).call hg9)
          have HG3 := Lib.hid hG3
          clear hw hb hG3 HR8 HL8 hg8
          go_wp2_with fail
          rw [HW9.out, HG3.out]
          go_at_call 75
          refine (anyGr_v arms _ _ _ _ _ HS9.out HNAT.out HAN.out G3 HD_9.out.c0 HD_9.out.c1 HCV.out).mono ?_
          rintro e w10 ⟨rfl, hb⟩
          have HD10 := Lib.hid (HD_9.out.below hb)
          have HR10 := Lib.hid (own_below HR9.out hb)
          have HL10 : Hid (Below G2 w7 w10) := Lib.hid (HL9.out.trans (hb.mono hg9))
          have hg10 : G2 ≤ w10.heap.size := by have := hb.size; omega
          clear hb HD_9 HR9 HL9 hg9 HS9 HW9
          cases cv
          · have HE : Hid (grV arms (i + 1) = gs ++ [⟨(p2 : Int), (q2 : Int)⟩]) := Lib.hid (by rw [HGS.out]; simp)
            have c0 := HD10.out.c0
            have c1 := HD10.out.c1
            go_wp2_with (at_builtin; refine wpList_app_Ag rfl _ _ rfl _ _ _ _ rfl HR10.out _ _ _ _ rfl (by first | rfl | simp) (by omega) hg10 ?_; intro v' w11 ho hb hg; have HX11 := Lib.hid ho; have HL11 : Hid (Below G2 w7 w11) := Lib.hid (HL10.out.trans hb); have hG11 : G2 ≤ w11.heap.size := (by have := hg.size; omega); clear ho hb hg)
            go_roundw
            case rel => exact ⟨i + 1, by omega, by go_num, Lib.hid (by rw [HE.out]; have h := HX11.out; rw [List.length_append]; simpa [flatA, encA] using h), HL11, hG11⟩
            case measure => simp [intOf]; omega
          · have HE : Hid (grV arms (i + 1) = gs) := Lib.hid (by rw [HGS.out]; simp)
            go_wp2
            go_roundw
            case rel => exact ⟨i + 1, by omega, by go_num, Lib.hid (by rw [HE.out]; exact HR10.out), HL10, hg10⟩
            case measure => simp [intOf]; omega
        · obtain rfl : i = arms.length := by omega
          have hi9 : ¬ (arms.length : Int) < (arms.length : Int) := by omega
          rw [grV_all] at HR8
          obtain ⟨AX, cX, hvx⟩ := own_form HR8.out
          subst hvx
          go_wp2
          go_ret
          exact ⟨AX, cX, by rw [HM.out]; first | done | rfl, by rw [HM.out]; exact own_base HR8.out hwG, HB7.out.trans (HL8.out.mono hwG)⟩
end Go.Proofs.Ytpmanbmhbfnefaa

namespace Go.Proofs.Ytpmanbmhbfnefaa
open Go.RowKit Go.Maps
set_option linter.unusedVariables false
set_option maxRecDepth 100000

set_option maxHeartbeats 2000000 in
theorem heldArmS_any (k0 : Int) (base : Nat) (A : Option Addr) (c n : Nat) (w : World) (h : w.ownsRow base 72 2 (.slice A n c) n (marksA k0 n)) (h0 : 0 < k0) (h1 : k0 + 2 * n ≤ 7000000) :
    Calls Try.prog 33 #[.slice A n c, .int .i64 k0] w (HeldP (k0 + 2 * n) w) := by
  have HO := Lib.hid h
  clear h
  go_enter Try.func33, Try.ntmps33
  go_wp2
  go_loop [1, 5] (fun kk i => ∃ (k : Nat), k ≤ n ∧ i = .int .i64 k ∧ kk = .int .i64 (k0 + 2 * k)) (fun _ i => n - (intOf i).toNat)
  case atStart => exact ⟨0, Nat.zero_le _, rfl, by simp⟩
  case round =>
    obtain ⟨k, hk, rfl, rfl⟩ := hrel
    by_cases hlt : k < n
    · obtain ⟨g, rfl, hbg, hgl⟩ := own_addr HO.out (by omega)
      have hx1 : w.cell? ⟨g, k * 2, none⟩ = some (.int .i64 (k0 + 2 * k)) := by rw [HO.out.cellAt (k * 2) (by omega)]; exact (marksA_get k0 n k hlt).1
      have hy1 : w.cell? ⟨g, k * 2 + 1, none⟩ = some (.int .i64 (k0 + 2 * k + 1)) := by rw [HO.out.cellAt (k * 2 + 1) (by omega)]; exact (marksA_get k0 n k hlt).2
      have hi1 : (k : Int) < (n : Int) := by omega
      go_wp2
      go_round
      case rel => exact ⟨k + 1, by omega, by go_num, by first | go_num | (congr 1; push_cast; omega)⟩
      case measure => simp [intOf]; omega
    · obtain rfl : k = n := by omega
      go_wp2
      go_ret
      exact ⟨rfl, Below.refl _ _⟩
theorem mGreat_sub {ds : List D} {b : Int} {list : List Int} : ∀ a ∈ mGreat ds b list, mGrOk ds b list = true ∧ a ∈ mArmsIn (mMask ds) list := by
  intro a ha
  rw [mGreat_V] at ha
  cases h : mGrOk ds b list
  · rw [h] at ha; exact absurd ha (by simp)
  · rw [h, if_pos rfl] at ha
    exact ⟨rfl, (List.mem_filter.1 ha).1⟩
theorem mGrOk_flag {ds : List D} {b : Int} {list : List Int} (h : mGrOk ds b list = true) : vFlag ds b = true := by
  rw [mGrOk_is] at h
  simp only [Bool.and_eq_true] at h
  exact h.1.1.1
theorem mGrOk_popc {ds : List D} {b : Int} {list : List Int} (h : mGrOk ds b list = true) : popc (mMask ds) ≤ 6 := by
  rw [mGrOk_is] at h
  simp only [Bool.and_eq_true, decide_eq_true_eq] at h
  exact h.1.1.2
theorem mGreat_arN (ds : List D) (b : Int) (list : List Int) : ∀ a ∈ mGreat ds b list, ArN a := by
  intro a ha
  obtain ⟨h1, h2⟩ := mGreat_sub a ha
  exact arms_arN (mMask_lt12 (vFlag_in (mGrOk_flag h1))) a h2
theorem mGreat_ok (ds : List D) (b : Int) (list : List Int) : ∀ a ∈ mGreat ds b list, a.ok := fun a ha => arN_ok (mGreat_arN ds b list a ha)
theorem mGreat_len (ds : List D) (b : Int) (list : List Int) : (mGreat ds b list).length ≤ 4096 := by
  rw [mGreat_V]
  cases h : mGrOk ds b list
  · exact Nat.zero_le _
  · rw [if_pos rfl]
    have h1 := mArmsIn_len (list := list) (mGrOk_popc h)
    have h2 := List.length_filter_le (fun a => !covV (mArmsIn (mMask ds) list) a) (mArmsIn (mMask ds) list)
    unfold mGrV
    omega
end Go.Proofs.Ytpmanbmhbfnefaa

