import Derived.Test.YteaiaglangmhbaaDoorLAlg
namespace Go.Proofs.YteaiaglangmhbaaDoor
open Go.RowKit Go.Maps
set_option linter.unusedVariables false
set_option maxRecDepth 100000

/-! ### plain facts for the laws of chapter 4: names and rest, how many bits, parts -/
theorem mIn_is (ds : List D) (a : Nat) : mMask (mIn ds a) = a &&& mMask (mSg ds) := by
  apply tb_ext; intro i
  rw [Nat.testBit_and, mMask_tb, mMask_tb, Bool.eq_iff_iff]
  simp only [List.any_eq_true, Bool.and_eq_true]
  constructor
  · rintro ⟨d, hd, h⟩
    obtain ⟨hd1, hf⟩ := List.mem_filter.1 hd
    obtain ⟨j, _, e⟩ := sg_pow hd1
    rw [e, pow_tb] at h
    simp at h; subst h
    refine ⟨?_, d, hd1, by rw [e, pow_tb]; simp⟩
    unfold fitIn at hf
    rw [e, decide_eq_true_iff] at hf
    exact nl_pow.1 hf
  · rintro ⟨ha, d, hd, h⟩
    obtain ⟨j, _, e⟩ := sg_pow hd
    rw [e, pow_tb] at h
    simp at h; subst h
    refine ⟨d, List.mem_filter.2 ⟨hd, ?_⟩, by rw [e, pow_tb]; simp⟩
    unfold fitIn
    rw [e, decide_eq_true_iff]
    exact nl_pow.2 ha
/-- Names and rest are the value. -/
theorem in_rest (ds : List D) (a : Nat) : mMask (mIn ds a) + nl a (mMask (mSg ds)) = a := by
  rw [mIn_is]; have := nl_add_and a (mMask (mSg ds)); omega
theorem in_rest0 (ds : List D) (a : Nat) : mMask (mIn ds a) &&& nl a (mMask (mSg ds)) = 0 := by
  rw [mIn_is]; apply tb_ext; intro i
  simp only [Nat.testBit_and, tb_nl, Nat.zero_testBit]
  cases a.testBit i <;> cases (mMask (mSg ds)).testBit i <;> rfl
/-- A rest has no names of one bit. -/
theorem rest_in (ds : List D) (a : Nat) : mIn ds (nl a (mMask (mSg ds))) = [] := by
  unfold mIn mWithin
  rw [List.filter_eq_nil_iff]
  intro d hd hf
  obtain ⟨j, _, e⟩ := sg_pow hd
  unfold fitIn at hf
  rw [e, decide_eq_true_iff, nl_pow, tb_nl] at hf
  have : (mMask (mSg ds)).testBit j = true := by
    rw [mMask_tb, List.any_eq_true]
    exact ⟨d, hd, by rw [e, pow_tb]; simp⟩
  rw [this] at hf
  simp at hf
theorem rest_rest (a m : Nat) : nl (nl a m) m = nl a m := by apply tb_ext; intro i; simp only [tb_nl]; cases a.testBit i <;> cases m.testBit i <;> rfl

/-! ### how many bits -/
theorem popc_step (m : Nat) : popc m = m % 2 + popc (m / 2) := by
  by_cases h0 : m = 0
  · subst h0; rw [popc_zero]
  · exact popc_pos (by omega)
theorem popc_pow (k : Nat) : popc (2 ^ k) = 1 := by
  induction k with
  | zero => decide +kernel
  | succ k ih =>
    rw [popc_step, Nat.pow_succ]
    have h1 : 2 ^ k * 2 % 2 = 0 := by omega
    have h2 : 2 ^ k * 2 / 2 = 2 ^ k := by omega
    rw [h1, h2, ih]
theorem popc_mod (a k : Nat) : popc (a % 2 ^ (k + 1)) = popc (a % 2 ^ k) + if a.testBit k then 1 else 0 := by
  rw [Nat.mod_pow_succ, bit_dm]
  cases h : a.testBit k
  · simp
  · simp only [if_true, Nat.mul_one]
    have hlt : a % 2 ^ k < 2 ^ k := Nat.mod_lt _ (Nat.two_pow_pos k)
    have hand : a % 2 ^ k &&& 2 ^ k = 0 := by
      apply tb_ext; intro i
      rw [Nat.testBit_and, pow_tb, Nat.zero_testBit]
      by_cases hi : k = i
      · subst hi; rw [Nat.testBit_lt_two_pow hlt]; rfl
      · rw [decide_eq_false hi, Bool.and_false]
    have h1 := or_add_and (a % 2 ^ k) (2 ^ k)
    have h2 := popc_or_and (a % 2 ^ k) (2 ^ k)
    rw [hand] at h1 h2
    rw [popc_zero, popc_pow] at h2
    rw [← (show (a % 2 ^ k ||| 2 ^ k) = a % 2 ^ k + 2 ^ k by omega)]
    omega
theorem in_len {ds : List D} {a : Nat} (ha : a < 4096) : (mIn ds a).length ≤ popc a := by
  have key : ∀ k, ((sgTo ds k).filter (fitIn a)).length ≤ popc (a % 2 ^ k) := by
    intro k
    induction k with
    | zero => exact Nat.zero_le _
    | succ k ih =>
      show ((sgTo ds k ++ sgAt ds k).filter (fitIn a)).length ≤ _
      rw [List.filter_append, List.length_append, popc_mod]
      have : ((sgAt ds k).filter (fitIn a)).length ≤ if a.testBit k then 1 else 0 := by
        cases h : a.testBit k
        · have : (sgAt ds k).filter (fitIn a) = [] := by
            rw [List.filter_eq_nil_iff]
            intro d hd hf
            obtain ⟨_, e⟩ := sgAt_in hd
            unfold fitIn at hf
            rw [e, Int.toNat_natCast, decide_eq_true_iff, nl_pow, h] at hf
            cases hf
          rw [this]; exact Nat.zero_le _
        · exact Nat.le_trans (List.length_filter_le _ _) (sgAt_len ds k)
      omega
  have := key 12
  rwa [Nat.mod_eq_of_lt (show a < 2 ^ 12 from ha)] at this

/-! ### parts -/
theorem count_two (p : Nat → Bool) (m : Nat) : ((List.range (2 * m)).filter p).length = ((List.range m).filter fun n => p (2 * n)).length + ((List.range m).filter fun n => p (2 * n + 1)).length := by
  induction m with
  | zero => rfl
  | succ m ih =>
    rw [show 2 * (m + 1) = 2 * m + 1 + 1 by omega, List.range_succ, List.range_succ, List.range_succ]
    simp only [List.filter_append, List.length_append, ih, List.filter_cons, List.filter_nil]
    cases p (2 * m) <;> cases p (2 * m + 1) <;> simp <;> omega
theorem part_half (x y : Nat) : nl x y = 0 ↔ nl (x / 2) (y / 2) = 0 ∧ (x % 2 = 1 → y % 2 = 1) := by
  rw [nl_zero, nl_zero]
  constructor
  · intro h
    refine ⟨fun i hi => ?_, fun hx => ?_⟩
    · rw [Nat.testBit_div_two] at hi ⊢; exact h _ hi
    · have := h 0 (by rw [Nat.testBit_zero]; simp [hx])
      rw [Nat.testBit_zero] at this
      simpa using this
  · rintro ⟨h1, h2⟩ i hi
    cases i with
    | zero => rw [Nat.testBit_zero] at *; simp at *; exact h2 hi
    | succ i => rw [← Nat.testBit_div_two] at *; exact h1 i hi
theorem parts_count (a : Nat) : ((List.range (a + 1)).filter (partN a)).length = 2 ^ popc a := by
  induction a using Nat.strongRecOn with
  | ind a ih =>
    by_cases h0 : a = 0
    · subst h0; decide +kernel
    · have ih2 := ih (a / 2) (by omega)
      have he : ∀ n, partN a (2 * n) = partN (a / 2) n := fun n => by
        unfold partN; rw [decide_eq_decide, part_half, show 2 * n / 2 = n by omega]
        constructor
        · exact fun h => h.1
        · exact fun h => ⟨h, fun h2 => by omega⟩
      have ho : ∀ n, partN a (2 * n + 1) = (partN (a / 2) n && decide (a % 2 = 1)) := fun n => by
        rw [Bool.eq_iff_iff, Bool.and_eq_true, decide_eq_true_iff]
        unfold partN; rw [decide_eq_true_iff, decide_eq_true_iff, part_half, show (2 * n + 1) / 2 = n by omega]
        constructor
        · exact fun h => ⟨h.1, h.2 (by omega)⟩
        · exact fun h => ⟨h.1, fun _ => h.2⟩
      have hc := count_two (partN a) (a / 2 + 1)
      have e1 : (fun n => partN a (2 * n)) = partN (a / 2) := funext he
      rw [e1, ih2] at hc
      by_cases hodd : a % 2 = 1
      · have e2 : (fun n => partN a (2 * n + 1)) = partN (a / 2) := funext fun n => by rw [ho, decide_eq_true hodd, Bool.and_true]
        rw [e2, ih2, show 2 * (a / 2 + 1) = a + 1 by omega] at hc
        rw [hc, popc_step a, hodd, Nat.add_comm 1, Nat.pow_succ]; omega
      · have e2 : (fun n => partN a (2 * n + 1)) = fun _ => false := funext fun n => by rw [ho, decide_eq_false hodd, Bool.and_false]
        rw [e2, show 2 * (a / 2 + 1) = a + 1 + 1 by omega, List.range_succ, List.filter_append, List.length_append] at hc
        have e3 : partN a (a + 1) = false := by
          rw [show a + 1 = 2 * (a / 2) + 1 by omega, ho, decide_eq_false hodd, Bool.and_false]
        rw [List.filter_cons, e3] at hc
        have e4 : ((List.range (a / 2 + 1)).filter fun _ => false) = [] := by rw [List.filter_eq_nil_iff]; intro x _ h; cases h
        rw [e4] at hc
        simp at hc
        rw [hc, popc_step a, show a % 2 = 0 by omega, Nat.zero_add]
theorem parts_len (a : Nat) : (partsTo a (a + 1)).length = 2 ^ popc a := by
  unfold partsTo; rw [List.length_map]; exact parts_count a
theorem nl_trans {a b c : Nat} (h1 : nl a b = 0) (h2 : nl b c = 0) : nl a c = 0 := by
  rw [nl_zero] at *
  exact fun i hi => h2 i (h1 i hi)
theorem parts_mem {p : Nat} (hp : p < 4096) {x : Int} (h : x ∈ partsTo p (p + 1)) : ∃ t : Nat, x = (t : Int) ∧ t < 4096 ∧ nl t p = 0 := by
  unfold partsTo at h
  obtain ⟨t, ht, rfl⟩ := List.mem_map.1 h
  obtain ⟨h1, h2⟩ := List.mem_filter.1 ht
  rw [List.mem_range] at h1
  unfold partN at h2
  exact ⟨t, rfl, by omega, by simpa using h2⟩
theorem parts_up (p : Nat) : ∀ i (h : i + 1 < (partsTo p (p + 1)).length), (partsTo p (p + 1))[i] < (partsTo p (p + 1))[i + 1] := by
  intro i h
  have h1 : ((List.range (p + 1)).filter (partN p)).Pairwise (· < ·) := List.Pairwise.filter _ List.pairwise_lt_range
  have h2 := List.pairwise_iff_getElem.1 h1 i (i + 1) (by unfold partsTo at h; rw [List.length_map] at h; omega) (by unfold partsTo at h; rw [List.length_map] at h; omega) (by omega)
  simp only [partsTo, List.getElem_map]
  exact Int.ofNat_lt.2 h2
theorem parts_first (p : Nat) : ∀ h : 0 < (partsTo p (p + 1)).length, (partsTo p (p + 1))[0] = 0 := by
  intro h
  have e : partsTo p (p + 1) = 0 :: ((((List.range p).map (· + 1)).filter (partN p)).map Int.ofNat) := by
    unfold partsTo
    rw [List.range_succ_eq_map, List.filter_cons]
    have h0 : partN p 0 = true := by unfold partN; rw [decide_eq_true_iff, nl_zero]; intro i hi; rw [Nat.zero_testBit] at hi; cases hi
    rw [h0, if_pos rfl]
    rfl
  simp only [e, List.getElem_cons_zero]
theorem parts_last (p : Nat) : ∀ h : (partsTo p (p + 1)).length - 1 < (partsTo p (p + 1)).length, (partsTo p (p + 1))[(partsTo p (p + 1)).length - 1] = (p : Int) := by
  intro h
  have e : partsTo p (p + 1) = partsTo p p ++ [(p : Int)] := by
    rw [partsTo_succ]
    have h0 : partN p p = true := by unfold partN; rw [decide_eq_true_iff]; exact part_self p
    rw [h0]; rfl
  have e2 : (partsTo p (p + 1))[(partsTo p (p + 1)).length - 1]? = some (p : Int) := by
    rw [e, List.length_append, List.getElem?_append_right (by simp)]
    simp
  rw [List.getElem?_eq_getElem h] at e2
  exact Option.some.inj e2
end Go.Proofs.YteaiaglangmhbaaDoor
