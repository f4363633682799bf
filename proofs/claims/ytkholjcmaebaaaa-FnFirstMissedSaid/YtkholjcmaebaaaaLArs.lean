import Derived.Test.YtkholjcmaebaaaaLArm
import Derived.Test.YtkholjcmaebaaaaLAlgR
namespace Go.Proofs.Ytkholjcmaebaaaa
open Go.RowKit Go.Maps
set_option linter.unusedVariables false
set_option maxRecDepth 100000

/-! ### lists of arms: what the laws ask -/
theorem mFirst_val {ds : List D} {b x : Int} {rs : List Ar} (h : mFirst ds b rs x ≠ -2) : mArms ds b rs = true ∧ ∃ p : Nat, x = (p : Int) ∧ p < 4096 ∧ mIsV ds b (p : Int) = true ∧ mFirst ds b rs x = firstA rs p := by
  unfold mFirst at h ⊢
  cases h1 : mArms ds b rs
  · rw [h1] at h; exact absurd rfl h
  · cases h2 : mIsV ds b x
    · rw [h1, h2] at h; exact absurd rfl h
    · obtain ⟨p, rfl, hp⟩ := mIsV_nat h2
      exact ⟨rfl, p, rfl, hp, h2, by rw [Int.toNat_natCast]; rfl⟩
theorem mArms_arm {ds : List D} {b : Int} {rs : List Ar} (h : mArms ds b rs = true) {a : Ar} (ha : a ∈ rs) : mArm ds b a = true := by
  unfold mArm; rw [mArms_flag h, mArms_fits h a ha]; rfl
theorem match_at {ds : List D} {b : Int} {rs : List Ar} {p : Nat} (h : mArms ds b rs = true) (hv : mIsV ds b (p : Int) = true) {a : Ar} (ha : a ∈ rs) : mMatch ds b a (p : Int) = matchA p a := by
  unfold mMatch; rw [mArms_arm h ha, hv, Int.toNat_natCast]; rfl
structure FstL (ds : List D) (b : Int) (rs : List Ar) (x r : Int) : Prop where
  at_ : ∀ k (h : k < rs.length), ∃ v, mMatch ds b rs[k] x = v ∧ (v = false → ((k : Int) == r) = false) ∧ (v = true → ¬ r < 0 ∧ ¬ (k : Int) < r)
  lt : r < rs.length
theorem fst_law {ds : List D} {b x : Int} {rs : List Ar} (h : mFirst ds b rs x ≠ -2) : FstL ds b rs x (mFirst ds b rs x) := by
  obtain ⟨hm, p, rfl, hp, hv, e⟩ := mFirst_val h
  rw [e]
  refine ⟨fun k hk => ⟨_, rfl, ?_, ?_⟩, firstA_lt rs p⟩
  · intro hf
    rw [match_at hm hv (List.getElem_mem hk)] at hf
    rw [beq_eq_false_iff_ne]
    intro he
    rcases fidx_cases (matchA p) rs with ⟨h1, _⟩ | ⟨j, hj, h1, h2, _⟩
    · unfold firstA at he; omega
    · have : k = j := by unfold firstA at he; omega
      subst this
      rw [h2] at hf; cases hf
  · intro ht
    rw [match_at hm hv (List.getElem_mem hk)] at ht
    rcases fidx_cases (matchA p) rs with ⟨_, h1⟩ | ⟨j, hj, h1, h2, h3⟩
    · rw [h1 k hk hk] at ht; cases ht
    · unfold firstA
      have hjk : ¬ k < j := fun hkj => by rw [h3 k hk hkj] at ht; cases ht
      omega
theorem mMissed_val {ds : List D} {b : Int} {rs : List Ar} (h : mMissed ds b rs ≠ -2) : mArms ds b rs = true ∧ mMissed ds b rs = missTo rs (mMask ds) (mMask ds + 1) := by
  unfold mMissed at h ⊢
  cases h1 : mArms ds b rs
  · rw [h1] at h; exact absurd rfl h
  · exact ⟨rfl, rfl⟩
theorem firstA_none {rs : List Ar} {n : Nat} : firstA rs n < 0 ↔ ∀ a ∈ rs, matchA n a = false := by
  unfold firstA
  rcases fidx_cases (matchA n) rs with ⟨h1, h2⟩ | ⟨j, hj, h1, h2, _⟩
  · constructor
    · intro _ a ha
      obtain ⟨i, hi, rfl⟩ := List.mem_iff_getElem.1 ha
      exact h2 i hi hi
    · intro _; omega
  · constructor
    · intro h; omega
    · intro h
      rw [h _ (List.getElem_mem hj)] at h2; cases h2
theorem missTo_some {rs : List Ar} {m k : Nat} {r : Int} (h : missTo rs m k = r) (h0 : 0 ≤ r) : ∃ x : Nat, r = (x : Int) ∧ x < k ∧ nl x m = 0 ∧ firstA rs x < 0 ∧ ∀ n, n < x → nl n m = 0 → ¬ firstA rs n < 0 := by
  unfold missTo at h
  split at h
  · rename_i x hx
    refine ⟨x, h.symm, ?_, ?_, ?_, ?_⟩
    · exact List.mem_range.1 (List.mem_of_find?_eq_some hx)
    · have := List.find?_some hx
      rw [Bool.and_eq_true] at this
      unfold partN at this
      exact of_decide_eq_true this.1
    · have := List.find?_some hx
      rw [Bool.and_eq_true] at this
      exact of_decide_eq_true this.2
    · intro n hn hp hf
      rw [List.find?_range_eq_some] at hx
      have := hx.2.2 n hn
      unfold partN at this
      rw [decide_eq_true hp, decide_eq_true hf] at this
      simp at this
  · omega
theorem missTo_no {rs : List Ar} {m k : Nat} (h : ∀ n, n < k → nl n m = 0 → ¬ firstA rs n < 0) : missTo rs m k = -1 := by
  unfold missTo
  split
  · rename_i x hx
    have h1 := List.find?_some hx
    rw [Bool.and_eq_true] at h1
    unfold partN at h1
    exact absurd (of_decide_eq_true h1.2) (h x (List.mem_range.1 (List.mem_of_find?_eq_some hx)) (of_decide_eq_true h1.1))
  · rfl
theorem missTo_ext {rs qs : List Ar} {m k : Nat} (h : ∀ n, n < k → nl n m = 0 → (firstA rs n < 0 ↔ firstA qs n < 0)) : missTo rs m k = missTo qs m k := by
  induction k with
  | zero => rfl
  | succ k ih =>
    rw [missTo_succ, missTo_succ, ih (fun n hn => h n (by omega))]
    have : (partN m k && decide (firstA rs k < 0)) = (partN m k && decide (firstA qs k < 0)) := by
      unfold partN
      by_cases hp : nl k m = 0
      · rw [decide_eq_decide.2 (h k (by omega) hp)]
      · rw [decide_eq_false hp]; rfl
    rw [this]
theorem mArms_snoc {ds : List D} {b : Int} {rs : List Ar} {a : Ar} (h : mArms ds b rs = true) (hl : rs.length < 10) (ha : mArm ds b a = true) : mArms ds b (rs ++ [a]) = true := by
  unfold mArms
  rw [mArms_flag h, List.all_append, List.length_append]
  rw [Bool.true_and, Bool.and_eq_true]
  refine ⟨?_, decide_eq_true (by simp; omega)⟩
  rw [Bool.and_eq_true]
  refine ⟨List.all_eq_true.2 (mArms_fits h), ?_⟩
  simp [mArm_fits ha]
theorem zero_arm {ds : List D} {b : Int} (hv : vFlag ds b = true) : mArm ds b ⟨0, 0⟩ = true := arm_of (p := 0) (q := 0) hv (nl_nil _) (nl_nil _) rfl
structure MisL (ds : List D) (b : Int) (rs : List Ar) (r : Int) (x m q : Nat) (y : Int) : Prop where
  x_ : r = (x : Int)
  xl : x < 4096
  m_ : mMaskOf ds b = (m : Int)
  q_ : mOp nl ds b (m : Int) (x : Int) = (q : Int)
  ql : q < 4096
  ok : (⟨(x : Int), (q : Int)⟩ : Ar).ok
  y_ : mMissed ds b (rs ++ [⟨(x : Int), (q : Int)⟩]) = y
  yy : y = -1 ∨ (x : Int) < y
  first : mFirst ds b rs (x : Int) = -1
  isv : mIsV ds b (x : Int) = true
theorem mis_law {ds : List D} {b : Int} {rs : List Ar} (h0 : 0 ≤ mMissed ds b rs) (hl : rs.length < 10) : ∃ x m q y, MisL ds b rs (mMissed ds b rs) x m q y := by
  obtain ⟨hm, e⟩ := mMissed_val (fun h => by rw [h] at h0; omega)
  have hfl := mArms_flag hm
  obtain ⟨x, hx, hxk, hxp, hxf, hxl⟩ := missTo_some e.symm h0
  have hm4 := mMask_lt12 (vFlag_in hfl)
  have hx4 : x < 4096 := by omega
  have hq4 : nl (mMask ds) x < 4096 := nl_lt hm4
  have hvx : mIsV ds b (x : Int) = true := v_part hfl hxp
  refine ⟨x, mMask ds, nl (mMask ds) x, _, hx, hx4, if_yes hfl, op_is (v_mask hfl) hvx rfl, hq4, ⟨show I64 (x : Int) by unfold I64; omega, show I64 ((nl (mMask ds) x : Nat) : Int) by unfold I64; omega⟩, rfl, ?_, ?_, hvx⟩
  · have harm : mArm ds b ⟨(x : Int), ((nl (mMask ds) x : Nat) : Int)⟩ = true := arm_of hfl hxp (not_part _ _) (bi1 _ _)
    have h2 : mArms ds b (rs ++ [⟨(x : Int), ((nl (mMask ds) x : Nat) : Int)⟩]) = true := mArms_snoc hm hl harm
    unfold mMissed
    rw [h2, if_pos rfl]
    by_cases h3 : 0 ≤ missTo (rs ++ [⟨(x : Int), ((nl (mMask ds) x : Nat) : Int)⟩]) (mMask ds) (mMask ds + 1)
    · right
      obtain ⟨y, hy, hyk, hyp, hyf, _⟩ := missTo_some rfl h3
      rw [hy]
      have hall := firstA_none.1 hyf
      have h4 : firstA rs y < 0 := firstA_none.2 fun a ha => hall a (List.mem_append.2 (.inl ha))
      have h5 : ¬ y < x := fun hyx => hxl y hyx hyp h4
      have h6 : y ≠ x := by
        rintro rfl
        have := hall ⟨(y : Int), ((nl (mMask ds) y : Nat) : Int)⟩ (List.mem_append.2 (.inr (List.mem_singleton.2 rfl)))
        unfold matchA at this
        simp only [Int.toNat_natCast] at this
        rw [match_self (bi1 _ _)] at this
        cases this
      omega
    · left
      have := missTo_ge (rs ++ [⟨(x : Int), ((nl (mMask ds) x : Nat) : Int)⟩]) (mMask ds) (mMask ds + 1)
      omega
  · unfold mFirst
    rw [hm, hvx, Int.toNat_natCast]
    have := firstA_ge rs x
    show firstA rs x = -1
    omega
theorem all_law {ds : List D} {b : Int} {rs : List Ar} (h0 : mMissed ds b rs ≠ -2) (hl : rs.length < 10) : ∃ m : Nat, mMaskOf ds b = (m : Int) ∧ mMissed ds b (rs ++ [⟨0, 0⟩]) = -1 ∧ mMissed ds b [] = 0 ∧ (mMissed ds b rs < 0 ∨ mMissed ds b rs ≤ (m : Int)) := by
  obtain ⟨hm, e⟩ := mMissed_val h0
  have hfl := mArms_flag hm
  refine ⟨mMask ds, if_yes hfl, ?_, ?_, ?_⟩
  · unfold mMissed
    rw [mArms_snoc hm hl (zero_arm hfl), if_pos rfl]
    refine missTo_no fun n _ _ hf => ?_
    have := firstA_none.1 hf ⟨0, 0⟩ (List.mem_append.2 (.inr (List.mem_singleton.2 rfl)))
    unfold matchA matchN at this
    simp [nl_nil] at this
  · have hn : mArms ds b [] = true := by unfold mArms; rw [hfl]; rfl
    unfold mMissed
    rw [hn, if_pos rfl]
    have key : ∀ k, missTo [] (mMask ds) (k + 1) = 0 := by
      intro k
      induction k with
      | zero =>
        rw [missTo_succ, missTo_zero]
        have h1 : partN (mMask ds) 0 = true := decide_eq_true (nl_nil _)
        have h2 : decide (firstA [] 0 < 0) = true := decide_eq_true (firstA_none.2 fun a ha => by cases ha)
        rw [h1, h2]; rfl
      | succ k ih => rw [missTo_succ, ih]; rfl
    exact key _
  · by_cases h : mMissed ds b rs < 0
    · exact .inl h
    · right
      obtain ⟨x, hx, _, hxp, _⟩ := missTo_some e.symm (by omega)
      have := part_le hxp
      omega

/-! ### dead arms -/
theorem cover_match {p q r s n : Nat} (h : coverN p q r s = true) (hm : matchN r s n = true) : matchN p q n = true := by
  unfold coverN at h
  rw [Bool.and_eq_true, decide_eq_true_iff, decide_eq_true_iff] at h
  rw [match_iff] at hm ⊢
  refine ⟨nl_trans h.1 hm.1, ?_⟩
  rw [and_zero] at *
  intro i hi
  cases hq : q.testBit i
  · rfl
  · have := hm.2 i hi
    rw [nl_zero.1 h.2 i hq] at this
    cases this
theorem met_iff {rs : List Ar} {m k : Nat} {j : Nat} : metBy rs m k j = true ↔ ∃ n, n < k ∧ nl n m = 0 ∧ firstA rs n = (j : Int) := by
  unfold metBy
  rw [List.any_eq_true]
  constructor
  · rintro ⟨n, hn, h⟩
    rw [Bool.and_eq_true] at h
    unfold partN at h
    exact ⟨n, List.mem_range.1 hn, of_decide_eq_true h.1, of_decide_eq_true h.2⟩
  · rintro ⟨n, hn, h1, h2⟩
    exact ⟨n, List.mem_range.2 hn, by unfold partN; rw [decide_eq_true h1, decide_eq_true h2]; rfl⟩
theorem dead_mem {rs : List Ar} {m k : Nat} {t : Int} : t ∈ deadTo rs m k ↔ ∃ j : Nat, t = (j : Int) ∧ j < k ∧ metBy rs m (m + 1) j = false := by
  unfold deadTo
  rw [List.mem_map]
  constructor
  · rintro ⟨j, hj, rfl⟩
    obtain ⟨h1, h2⟩ := List.mem_filter.1 hj
    exact ⟨j, rfl, List.mem_range.1 h1, by simpa using h2⟩
  · rintro ⟨j, rfl, h1, h2⟩
    exact ⟨j, List.mem_filter.2 ⟨List.mem_range.2 h1, by rw [h2]; rfl⟩, rfl⟩
theorem dead_up (rs : List Ar) (m k : Nat) : (deadTo rs m k).Pairwise (· < ·) := by
  unfold deadTo
  rw [List.pairwise_map]
  refine (List.Pairwise.filter _ (List.pairwise_lt_range)).imp ?_
  intro a b h
  exact Int.ofNat_lt.2 h
theorem dead_ups (rs : List Ar) (m k : Nat) : ∀ i (h : i + 1 < (deadTo rs m k).length), (deadTo rs m k)[i] < (deadTo rs m k)[i + 1] := fun i h =>
  List.pairwise_iff_getElem.1 (dead_up rs m k) i (i + 1) (by omega) h (by omega)
/-- Among the arms ahead of k those that are not dead. -/
def fewTo (rs : List Ar) (m : Nat) : Nat → List Ar
  | 0 => []
  | k + 1 => fewTo rs m k ++ (if metBy rs m (m + 1) k then (match rs[k]? with | some a => [a] | none => []) else [])
theorem fewTo_yes {rs : List Ar} {m k : Nat} (hk : k < rs.length) (h : metBy rs m (m + 1) k = true) : fewTo rs m (k + 1) = fewTo rs m k ++ [rs[k]] := by
  show fewTo rs m k ++ _ = _
  rw [h, List.getElem?_eq_getElem hk]; rfl
theorem fewTo_no {rs : List Ar} {m k : Nat} (h : metBy rs m (m + 1) k = false) : fewTo rs m (k + 1) = fewTo rs m k := by
  show fewTo rs m k ++ _ = _
  rw [h]; simp
theorem fewTo_len (rs : List Ar) (m k : Nat) : (fewTo rs m k).length ≤ k := by
  induction k with
  | zero => exact Nat.le_refl _
  | succ k ih =>
    show (fewTo rs m k ++ _).length ≤ _
    rw [List.length_append]
    split
    · split <;> simp <;> omega
    · simp; omega
theorem fewTo_mem {rs : List Ar} {m k : Nat} {a : Ar} : a ∈ fewTo rs m k ↔ ∃ j, ∃ hj : j < rs.length, j < k ∧ metBy rs m (m + 1) j = true ∧ a = rs[j] := by
  induction k with
  | zero => constructor
            · intro h; cases h
            · rintro ⟨j, _, h, _⟩; omega
  | succ k ih =>
    show a ∈ fewTo rs m k ++ _ ↔ _
    rw [List.mem_append, ih]
    constructor
    · rintro (⟨j, hj, h1, h2, h3⟩ | h)
      · exact ⟨j, hj, by omega, h2, h3⟩
      · split at h
        · rename_i hm
          split at h
          · rename_i x hx
            have hk := (List.getElem?_eq_some_iff.1 hx).1
            refine ⟨k, hk, by omega, hm, ?_⟩
            rw [List.mem_singleton.1 h]; exact ((List.getElem?_eq_some_iff.1 hx).2).symm
          · cases h
        · cases h
    · rintro ⟨j, hj, h1, h2, rfl⟩
      by_cases e : j = k
      · subst e
        right
        rw [h2, if_pos rfl, List.getElem?_eq_getElem hj]
        exact List.mem_singleton.2 rfl
      · exact .inl ⟨j, hj, by omega, h2, rfl⟩
/-- Which arm comes first among those that are left. -/
theorem few_first {rs : List Ar} {m n : Nat} (hn : n < m + 1) (hp : nl n m = 0) {j : Nat} (h : firstA rs n = (j : Int)) : firstA (fewTo rs m rs.length) n = ((fewTo rs m j).length : Int) := by
  rcases fidx_cases (matchA n) rs with ⟨h1, _⟩ | ⟨i, hi, h1, h2, h3⟩
  · unfold firstA at h; omega
  · have hij : i = j := by unfold firstA at h; omega
    subst hij
    have hmet : metBy rs m (m + 1) i = true := met_iff.2 ⟨n, hn, hp, h⟩
    -- the arms behind i only lengthen the list
    have hpre : ∀ k, i + 1 ≤ k → ∃ l, fewTo rs m k = fewTo rs m (i + 1) ++ l := by
      intro k hk
      induction k with
      | zero => omega
      | succ k ih =>
        by_cases e : i = k
        · subst e; exact ⟨[], by simp⟩
        · obtain ⟨l, hl⟩ := ih (by omega)
          exact ⟨l ++ (if metBy rs m (m + 1) k then (match rs[k]? with | some a => [a] | none => []) else []), by show fewTo rs m k ++ _ = _; rw [hl, List.append_assoc]⟩
    obtain ⟨l, hl⟩ := hpre rs.length (by omega)
    rw [hl, fewTo_yes hi hmet]
    unfold firstA
    have hno : ∀ a ∈ fewTo rs m i, matchA n a = false := by
      intro a ha
      obtain ⟨q, hq, hqi, _, rfl⟩ := fewTo_mem.1 ha
      exact h3 q hq hqi
    rcases fidx_cases (matchA n) (fewTo rs m i ++ [rs[i]] ++ l) with ⟨_, h4⟩ | ⟨q, hq, h4, h5, h6⟩
    · have hlen : (fewTo rs m i).length < (fewTo rs m i ++ [rs[i]] ++ l).length := by simp
      have := h4 (fewTo rs m i).length hlen hlen
      rw [List.getElem_append_left (by simp), List.getElem_append_right (by simp)] at this
      simp at this
      rw [this] at h2; cases h2
    · rw [h4]
      have hlen : (fewTo rs m i).length < (fewTo rs m i ++ [rs[i]] ++ l).length := by simp
      have hge : ¬ q < (fewTo rs m i).length := by
        intro hlt
        rw [List.getElem_append_left (by simp; omega), List.getElem_append_left hlt] at h5
        rw [hno _ (List.getElem_mem hlt)] at h5; cases h5
      have hle : ¬ (fewTo rs m i).length < q := by
        intro hlt
        have := h6 (fewTo rs m i).length hlen hlt
        rw [List.getElem_append_left (by simp), List.getElem_append_right (by simp)] at this
        simp at this
        rw [this] at h2; cases h2
      omega
theorem few_none {rs : List Ar} {m n : Nat} (hn : n < m + 1) (hp : nl n m = 0) : firstA (fewTo rs m rs.length) n < 0 ↔ firstA rs n < 0 := by
  constructor
  · intro h
    by_cases hc : firstA rs n < 0
    · exact hc
    · obtain ⟨j, hj⟩ : ∃ j : Nat, firstA rs n = (j : Int) := ⟨(firstA rs n).toNat, by omega⟩
      have := few_first hn hp hj
      omega
  · intro h
    rw [firstA_none] at h ⊢
    intro a ha
    obtain ⟨j, hj, _, _, rfl⟩ := fewTo_mem.1 ha
    exact h _ (List.getElem_mem hj)
/-- The index among those that are left leads back. -/
theorem few_at {rs : List Ar} {m : Nat} : ∀ k, k ≤ rs.length → ∀ i, i < (fewTo rs m k).length → ∃ j, j < k ∧ metBy rs m (m + 1) j = true ∧ (fewTo rs m j).length = i := by
  intro k
  induction k with
  | zero => intro _ i hi; exact absurd hi (by simp [fewTo])
  | succ k ih =>
    intro hk i hi
    cases hm : metBy rs m (m + 1) k
    · rw [fewTo_no hm] at hi
      obtain ⟨j, h1, h2, h3⟩ := ih (by omega) i hi
      exact ⟨j, by omega, h2, h3⟩
    · rw [fewTo_yes (by omega) hm, List.length_append] at hi
      by_cases e : i < (fewTo rs m k).length
      · obtain ⟨j, h1, h2, h3⟩ := ih (by omega) i e
        exact ⟨j, by omega, h2, h3⟩
      · exact ⟨k, by omega, hm, by simp at hi; omega⟩
theorem few_dead (rs : List Ar) (m : Nat) : deadTo (fewTo rs m rs.length) m (fewTo rs m rs.length).length = [] := by
  rw [List.eq_nil_iff_forall_not_mem]
  intro t ht
  obtain ⟨i, rfl, hi, hm⟩ := dead_mem.1 ht
  obtain ⟨j, hj, hmet, hl⟩ := few_at rs.length (Nat.le_refl _) i hi
  obtain ⟨n, hn, hp, hf⟩ := met_iff.1 hmet
  have : metBy (fewTo rs m rs.length) m (m + 1) i = true := met_iff.2 ⟨n, hn, hp, by rw [few_first hn hp hf, hl]⟩
  rw [hm] at this; cases this
structure DeadL (ds : List D) (b : Int) (rs : List Ar) (out : List Int) (few : Nat → List Ar) (r : Int) : Prop where
  up : ∀ i (h : i + 1 < out.length), out[i] < out[i + 1]
  zero : few 0 = []
  step : ∀ k (h : k < rs.length), ∃ v, (out.any fun t => t == (k : Int)) = v ∧ (v = true → few (k + 1) = few k) ∧ (v = false → few (k + 1) = few k ++ [rs[k]])
  len : ∀ k, (few k).length ≤ k
  sub : ∀ k, ∀ a ∈ few k, a ∈ rs
  same : mMissed ds b (few rs.length) = r
  dead : mDead ds b (few rs.length) = []
theorem dead_law {ds : List D} {b : Int} {rs : List Ar} (h : mMissed ds b rs ≠ -2) : DeadL ds b rs (mDead ds b rs) (fewTo rs (mMask ds)) (mMissed ds b rs) := by
  obtain ⟨hm, e⟩ := mMissed_val h
  have hd : mDead ds b rs = deadTo rs (mMask ds) rs.length := by unfold mDead; rw [hm, if_pos rfl]
  have hsub : ∀ k, ∀ a ∈ fewTo rs (mMask ds) k, a ∈ rs := by
    intro k a ha
    obtain ⟨j, hj, _, _, rfl⟩ := fewTo_mem.1 ha
    exact List.getElem_mem hj
  have hfm : mArms ds b (fewTo rs (mMask ds) rs.length) = true := by
    unfold mArms
    rw [mArms_flag hm, Bool.true_and, Bool.and_eq_true]
    refine ⟨List.all_eq_true.2 fun a ha => mArms_fits hm a (hsub _ a ha), decide_eq_true ?_⟩
    have := fewTo_len rs (mMask ds) rs.length
    have := mArms_len hm
    omega
  rw [hd]
  refine ⟨dead_ups _ _ _, rfl, ?_, fewTo_len _ _, hsub, ?_, ?_⟩
  · intro k hk
    have hany : ((deadTo rs (mMask ds) rs.length).any fun t => t == (k : Int)) = !metBy rs (mMask ds) (mMask ds + 1) k := by
      rw [Bool.eq_iff_iff, List.any_eq_true]
      constructor
      · rintro ⟨t, ht, he⟩
        obtain ⟨j, rfl, _, hj⟩ := dead_mem.1 ht
        have : j = k := by have := beq_iff_eq.1 he; omega
        subst this
        rw [hj]; rfl
      · intro hv
        exact ⟨(k : Int), dead_mem.2 ⟨k, rfl, hk, by simpa using hv⟩, beq_self_eq_true _⟩
    refine ⟨_, hany, ?_, ?_⟩
    · intro hv; exact fewTo_no (by simpa using hv)
    · intro hv; exact fewTo_yes hk (by simpa using hv)
  · unfold mMissed
    rw [hfm, hm, if_pos rfl, if_pos rfl]
    exact missTo_ext fun n hn hp => few_none hn hp
  · unfold mDead
    rw [hfm, if_pos rfl]
    exact few_dead _ _
structure CovL (ds : List D) (b : Int) (rs : List Ar) (out : List Int) : Prop where
  cov : ∀ i k (hi : i < rs.length) (hk : k < rs.length), i < k → mCover ds b rs[i] rs[k] = true → (out.any fun t => t == (k : Int)) = true
  first : (out.any fun t => t == (0 : Int)) = false
theorem cov_law {ds : List D} {b : Int} {rs : List Ar} (h : mMissed ds b rs ≠ -2) : CovL ds b rs (mDead ds b rs) := by
  obtain ⟨hm, e⟩ := mMissed_val h
  have hd : mDead ds b rs = deadTo rs (mMask ds) rs.length := by unfold mDead; rw [hm, if_pos rfl]
  rw [hd]
  refine ⟨?_, ?_⟩
  · intro i k hi hk hik hc
    rw [List.any_eq_true]
    refine ⟨(k : Int), dead_mem.2 ⟨k, rfl, hk, ?_⟩, beq_self_eq_true _⟩
    rw [Bool.eq_false_iff]
    intro hmet
    obtain ⟨n, hn, hp, hf⟩ := met_iff.1 hmet
    rcases fidx_cases (matchA n) rs with ⟨h1, _⟩ | ⟨j, hj, h1, h2, h3⟩
    · unfold firstA at hf; omega
    · have hjk : j = k := by unfold firstA at hf; omega
      subst hjk
      have hno := h3 i hi hik
      unfold mCover at hc
      rw [Bool.and_eq_true] at hc
      unfold matchA at h2 hno
      rw [cover_match hc.2 h2] at hno
      cases hno
  · rw [List.any_eq_false]
    intro t ht he
    obtain ⟨j, rfl, hj, hmet⟩ := dead_mem.1 ht
    have hj0 : j = 0 := by have := beq_iff_eq.1 he; omega
    subst hj0
    have ha := mArms_arm hm (List.getElem_mem hj)
    obtain ⟨p, q, hp, hq, _, _, hpm, _, hpq⟩ := mArm_nat ha
    have hle := part_le hpm
    have hmatch : matchA p rs[0] = true := by
      unfold matchA
      rw [hp, hq, Int.toNat_natCast, Int.toNat_natCast]
      exact match_self hpq
    have : metBy rs (mMask ds) (mMask ds + 1) 0 = true := met_iff.2 ⟨p, by omega, hpm, by
      unfold firstA
      rcases fidx_cases (matchA p) rs with ⟨_, h1⟩ | ⟨j, hj2, h1, _, h3⟩
      · have := h1 0 hj hj
        rw [hmatch] at this; cases this
      · by_cases hj0 : j = 0
        · rw [h1, hj0]
        · have := h3 0 hj (by omega)
          rw [hmatch] at this; cases this⟩
    rw [hmet] at this; cases this
end Go.Proofs.Ytkholjcmaebaaaa
