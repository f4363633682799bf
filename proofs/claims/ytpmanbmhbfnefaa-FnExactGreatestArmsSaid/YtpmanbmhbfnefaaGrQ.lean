import Derived.Test.YtpmanbmhbfnefaaGrP
namespace Go.Proofs.Ytpmanbmhbfnefaa
open Go.RowKit Go.Maps
set_option linter.unusedVariables false
set_option maxRecDepth 100000

/-! ### the greatest of a row of arms: by index (the specification) and by value (the program) -/
def eqA (a b : Ar) : Bool := decide (a.all = b.all) && decide (a.non = b.non)
def covA (a b : Ar) : Bool := coverN a.all.toNat a.non.toNat b.all.toNat b.non.toNat
def covAt (arms : List Ar) (j i : Nat) : Bool := match arms[j]?, arms[i]? with
  | some x, some y => covA x y
  | _, _ => false
/-- One of the first k, not that at i, covers that at i. -/
def covIx (arms : List Ar) (i k : Nat) : Bool := (List.range k).any fun j => decide (j ≠ i) && covAt arms j i
/-- Those of the first k that no other one covers. -/
def grTo (arms : List Ar) (k : Nat) : List Ar := (List.range k).filterMap fun i => if covIx arms i arms.length then none else arms[i]?
def mGrI (arms : List Ar) : List Ar := grTo arms arms.length
def covV (arms : List Ar) (a : Ar) : Bool := arms.any fun b => !eqA b a && covA b a
def mGrV (arms : List Ar) : List Ar := arms.filter fun a => !covV arms a
theorem covAt_at {arms : List Ar} {i j : Nat} (hi : i < arms.length) (hj : j < arms.length) : covAt arms j i = covA arms[j] arms[i] := by
  unfold covAt; rw [List.getElem?_eq_getElem hi, List.getElem?_eq_getElem hj]
theorem covIx_succ {arms : List Ar} {i k : Nat} (hi : i < arms.length) (hk : k < arms.length) : covIx arms i (k + 1) = (covIx arms i k || (decide (k ≠ i) && covA arms[k] arms[i])) := by
  unfold covIx
  rw [List.range_succ, List.any_append, List.any_cons, List.any_nil, Bool.or_false, covAt_at hi hk]
theorem grTo_succ {arms : List Ar} {k : Nat} (hk : k < arms.length) : grTo arms (k + 1) = grTo arms k ++ if covIx arms k arms.length then [] else [arms[k]] := by
  unfold grTo
  rw [List.range_succ, List.filterMap_append]
  congr 1
  rw [List.filterMap_cons, List.filterMap_nil]
  cases covIx arms k arms.length
  · simp [List.getElem?_eq_getElem hk]
  · simp
theorem grTo_len (arms : List Ar) (k : Nat) : (grTo arms k).length ≤ k := by
  unfold grTo
  have := List.length_filterMap_le (fun i => if covIx arms i arms.length then none else arms[i]?) (List.range k)
  rw [List.length_range] at this
  exact this
/-- No arm stands twice. -/
def Apt (arms : List Ar) : Prop := arms.Pairwise fun a b => eqA a b = false
theorem eqA_comm (a b : Ar) : eqA a b = eqA b a := by
  unfold eqA
  rw [Bool.eq_iff_iff]
  simp only [Bool.and_eq_true, decide_eq_true_iff]
  exact ⟨fun h => ⟨h.1.symm, h.2.symm⟩, fun h => ⟨h.1.symm, h.2.symm⟩⟩
theorem eqA_self (a : Ar) : eqA a a = true := by unfold eqA; simp
theorem Apt.at_ {arms : List Ar} (h : Apt arms) {i j : Nat} (hi : i < arms.length) (hj : j < arms.length) (hne : i ≠ j) : eqA arms[i] arms[j] = false := by
  rcases Nat.lt_or_gt_of_ne hne with hl | hl
  · exact List.pairwise_iff_getElem.1 h i j hi hj hl
  · rw [eqA_comm]; exact List.pairwise_iff_getElem.1 h j i hj hi hl
theorem covIx_V {arms : List Ar} (h : Apt arms) {i : Nat} (hi : i < arms.length) : covIx arms i arms.length = covV arms arms[i] := by
  unfold covIx covV
  rw [Bool.eq_iff_iff, List.any_eq_true, List.any_eq_true]
  constructor
  · rintro ⟨j, hj, hc⟩
    have hj' := List.mem_range.1 hj
    rw [covAt_at hi hj', Bool.and_eq_true, decide_eq_true_iff] at hc
    exact ⟨arms[j], List.getElem_mem hj', by rw [h.at_ hj' hi hc.1, hc.2]; rfl⟩
  · rintro ⟨b, hb, hc⟩
    obtain ⟨j, hj, rfl⟩ := List.mem_iff_getElem.1 hb
    rw [Bool.and_eq_true, Bool.not_eq_true'] at hc
    refine ⟨j, List.mem_range.2 hj, ?_⟩
    rw [covAt_at hi hj, hc.2, Bool.and_true, decide_eq_true_iff]
    intro e
    subst e
    rw [eqA_self] at hc
    exact absurd hc.1 (by decide)
theorem gr_same {arms : List Ar} (h : Apt arms) : mGrI arms = mGrV arms := by
  have key : ∀ k, k ≤ arms.length → grTo arms k = (arms.take k).filter fun a => !covV arms a := by
    intro k
    induction k with
    | zero => intro _; rfl
    | succ k ih =>
      intro hk
      have hk' : k < arms.length := by omega
      rw [grTo_succ hk', ih (by omega), List.take_succ_eq_append_getElem hk', List.filter_append]
      congr 1
      rw [covIx_V h hk', List.filter_cons, List.filter_nil]
      cases covV arms arms[k] <;> rfl
  have := key arms.length (Nat.le_refl _)
  rw [List.take_of_length_le (Nat.le_refl _)] at this
  exact this
/-! ### the row of all arms has none twice -/
theorem partsTo_apart (a k : Nat) : (partsTo a k).Pairwise fun x y => x ≠ y := by
  unfold partsTo
  rw [List.pairwise_map]
  have h1 : ((List.range k).filter (partN a)).Pairwise (· < ·) := List.Pairwise.filter _ List.pairwise_lt_range
  refine List.Pairwise.imp ?_ h1
  intro x y hxy e
  have e2 : x = y := Int.ofNat.inj e
  omega
theorem rowA_apart {all list qs : List Int} {p : Int} (h : qs.Pairwise fun x y => x ≠ y) : Apt (rowA all list p qs) := by
  unfold Apt rowA
  rw [List.pairwise_map]
  refine List.Pairwise.imp ?_ (List.Pairwise.filter _ h)
  intro x y hxy
  unfold eqA
  rw [decide_eq_false hxy, Bool.and_false]
theorem rowA_all {all list qs : List Int} {p : Int} {a : Ar} (h : a ∈ rowA all list p qs) : a.all = p := by
  unfold rowA at h
  obtain ⟨q, _, rfl⟩ := List.mem_map.1 h
  rfl
theorem armsA_all {m : Nat} {all list ps : List Int} {a : Ar} (h : a ∈ armsA m all list ps) : a.all ∈ ps := by
  unfold armsA at h
  obtain ⟨p, hp, ha⟩ := List.mem_flatMap.1 h
  rw [rowA_all ha]
  exact hp
theorem armsA_apart {m : Nat} {all list : List Int} : ∀ {ps : List Int}, (ps.Pairwise fun x y => x ≠ y) → Apt (armsA m all list ps)
  | [], _ => List.Pairwise.nil
  | p :: ps, h => by
    have h1 := List.pairwise_cons.1 h
    have h2 := armsA_apart (m := m) (all := all) (list := list) h1.2
    have e : armsA m all list (p :: ps) = rowA all list p (othersOf m p) ++ armsA m all list ps := by unfold armsA; rw [List.flatMap_cons]
    rw [e]
    unfold Apt at h2 ⊢
    refine List.pairwise_append.2 ⟨rowA_apart (partsTo_apart _ _), h2, fun a ha b hb => ?_⟩
    have e1 := rowA_all ha
    have e2 := h1.1 _ (armsA_all hb)
    unfold eqA
    rw [e1, decide_eq_false e2, Bool.false_and]
theorem mArmsIn_apart (m : Nat) (list : List Int) : Apt (mArmsIn m list) := armsA_apart (partsTo_apart _ _)
/-! ### what GreatestArms answers -/
def mGrOk (ds : List D) (b : Int) (list : List Int) : Bool := vFlag ds b && decide (popc (mMask ds) ≤ 6) && decide (list.length ≤ 64) && list.all fun n => (decide (0 ≤ n) && decide (n ≤ 4095)) && decide (nl n.toNat (mMask ds) = 0)
def mGreat (ds : List D) (b : Int) (list : List Int) : List Ar := if mGrOk ds b list then mGrI (mArmsIn (mMask ds) list) else []
theorem mGreat_V (ds : List D) (b : Int) (list : List Int) : mGreat ds b list = if mGrOk ds b list then mGrV (mArmsIn (mMask ds) list) else [] := by
  unfold mGreat; rw [gr_same (mArmsIn_apart _ _)]
end Go.Proofs.Ytpmanbmhbfnefaa
