import Derived.Test.YtiebdhbioccogaaGreatDoorLAlg
import Derived.Test.YtiebdhbioccogaaGreatDoorBaseH
import Derived.Test.YtiebdhbioccogaaGreatDoorBaseZ
import Derived.Test.YtiebdhbioccogaaGreatDoorBaseM
import Derived.Test.YtiebdhbioccogaaGreatDoorBaseC
import Derived.Test.YtiebdhbioccogaaGreatDoorBaseB
import Derived.Test.YtiebdhbioccogaaGreatDoorOpenC
import Derived.Test.YtiebdhbioccogaaGreatDoorBaseI
import Derived.Test.YtiebdhbioccogaaGreatDoorBaseQ
namespace Go.Proofs.YtiebdhbioccogaaGreatDoor
open Go.RowKit Go.Maps
set_option linter.unusedVariables false
set_option maxRecDepth 100000

/-! ### plain facts for the laws of chapter 4: names and rest, how many bits, parts -/
theorem mIn_is (ds : List D) (a : Nat) : mMask (mIn ds a) = a &&& mMask (mSg ds) := by
  apply tb_ext; intro i
  rw [Nat.testBit_and, mMask_tb, mMask_tb, Bool.eq_iff_iff]
  simp only [List.any_eq_true, Bool.and_eq_true]
  constructor
  · rintro ⟨d, hd, h⟩
    obtain ⟨hd1, hf⟩ := List.mem_filter.1 hd
    obtain ⟨j, _, e⟩ := sg_pow hd1
    rw [e, pow_tb] at h
    simp at h; subst h
    refine ⟨?_, d, hd1, by rw [e, pow_tb]; simp⟩
    unfold fitIn at hf
    rw [e, decide_eq_true_iff] at hf
    exact nl_pow.1 hf
  · rintro ⟨ha, d, hd, h⟩
    obtain ⟨j, _, e⟩ := sg_pow hd
    rw [e, pow_tb] at h
    simp at h; subst h
    refine ⟨d, List.mem_filter.2 ⟨hd, ?_⟩, by rw [e, pow_tb]; simp⟩
    unfold fitIn
    rw [e, decide_eq_true_iff]
    exact nl_pow.2 ha
/-- Names and rest are the value. -/
theorem in_restR (ds : List D) (a : Nat) : mMask (mIn ds a) + nl a (mMask (mSg ds)) = a := by
  rw [mIn_is]; have := nl_add_and a (mMask (mSg ds)); omega
theorem in_restR0 (ds : List D) (a : Nat) : mMask (mIn ds a) &&& nl a (mMask (mSg ds)) = 0 := by
  rw [mIn_is]; apply tb_ext; intro i
  simp only [Nat.testBit_and, tb_nl, Nat.zero_testBit]
  cases a.testBit i <;> cases (mMask (mSg ds)).testBit i <;> rfl
/-- A rest has no names of one bit. -/
theorem rest_in (ds : List D) (a : Nat) : mIn ds (nl a (mMask (mSg ds))) = [] := by
  unfold mIn mWithin
  rw [List.filter_eq_nil_iff]
  intro d hd hf
  obtain ⟨j, _, e⟩ := sg_pow hd
  unfold fitIn at hf
  rw [e, decide_eq_true_iff, nl_pow, tb_nl] at hf
  have : (mMask (mSg ds)).testBit j = true := by
    rw [mMask_tb, List.any_eq_true]
    exact ⟨d, hd, by rw [e, pow_tb]; simp⟩
  rw [this] at hf
  simp at hf
theorem rest_rest (a m : Nat) : nl (nl a m) m = nl a m := by apply tb_ext; intro i; simp only [tb_nl]; cases a.testBit i <;> cases m.testBit i <;> rfl

/-! ### how many bits -/
theorem popc_step (m : Nat) : popc m = m % 2 + popc (m / 2) := by
  by_cases h0 : m = 0
  · subst h0; rw [popc_zero]
  · exact popc_pos (by omega)
theorem popc_pow (k : Nat) : popc (2 ^ k) = 1 := by
  induction k with
  | zero => decide +kernel
  | succ k ih =>
    rw [popc_step, Nat.pow_succ]
    have h1 : 2 ^ k * 2 % 2 = 0 := by omega
    have h2 : 2 ^ k * 2 / 2 = 2 ^ k := by omega
    rw [h1, h2, ih]
theorem popc_mod (a k : Nat) : popc (a % 2 ^ (k + 1)) = popc (a % 2 ^ k) + if a.testBit k then 1 else 0 := by
  rw [Nat.mod_pow_succ, bit_dm]
  cases h : a.testBit k
  · simp
  · simp only [if_true, Nat.mul_one]
    have hlt : a % 2 ^ k < 2 ^ k := Nat.mod_lt _ (Nat.two_pow_pos k)
    have hand : a % 2 ^ k &&& 2 ^ k = 0 := by
      apply tb_ext; intro i
      rw [Nat.testBit_and, pow_tb, Nat.zero_testBit]
      by_cases hi : k = i
      · subst hi; rw [Nat.testBit_lt_two_pow hlt]; rfl
      · rw [decide_eq_false hi, Bool.and_false]
    have h1 := or_add_and (a % 2 ^ k) (2 ^ k)
    have h2 := popc_or_and (a % 2 ^ k) (2 ^ k)
    rw [hand] at h1 h2
    rw [popc_zero, popc_pow] at h2
    rw [← (show (a % 2 ^ k ||| 2 ^ k) = a % 2 ^ k + 2 ^ k by omega)]
    omega
theorem in_len {ds : List D} {a : Nat} (ha : a < 4096) : (mIn ds a).length ≤ popc a := by
  have key : ∀ k, ((sgTo ds k).filter (fitIn a)).length ≤ popc (a % 2 ^ k) := by
    intro k
    induction k with
    | zero => exact Nat.zero_le _
    | succ k ih =>
      show ((sgTo ds k ++ sgAt ds k).filter (fitIn a)).length ≤ _
      rw [List.filter_append, List.length_append, popc_mod]
      have : ((sgAt ds k).filter (fitIn a)).length ≤ if a.testBit k then 1 else 0 := by
        cases h : a.testBit k
        · have : (sgAt ds k).filter (fitIn a) = [] := by
            rw [List.filter_eq_nil_iff]
            intro d hd hf
            obtain ⟨_, e⟩ := sgAt_in hd
            unfold fitIn at hf
            rw [e, Int.toNat_natCast, decide_eq_true_iff, nl_pow, h] at hf
            cases hf
          rw [this]; exact Nat.zero_le _
        · exact Nat.le_trans (List.length_filter_le _ _) (sgAt_len ds k)
      omega
  have := key 12
  rwa [Nat.mod_eq_of_lt (show a < 2 ^ 12 from ha)] at this

/-! ### parts -/
theorem count_two (p : Nat → Bool) (m : Nat) : ((List.range (2 * m)).filter p).length = ((List.range m).filter fun n => p (2 * n)).length + ((List.range m).filter fun n => p (2 * n + 1)).length := by
  induction m with
  | zero => rfl
  | succ m ih =>
    rw [show 2 * (m + 1) = 2 * m + 1 + 1 by omega, List.range_succ, List.range_succ, List.range_succ]
    simp only [List.filter_append, List.length_append, ih, List.filter_cons, List.filter_nil]
    cases p (2 * m) <;> cases p (2 * m + 1) <;> simp <;> omega
theorem part_half (x y : Nat) : nl x y = 0 ↔ nl (x / 2) (y / 2) = 0 ∧ (x % 2 = 1 → y % 2 = 1) := by
  rw [nl_zero, nl_zero]
  constructor
  · intro h
    refine ⟨fun i hi => ?_, fun hx => ?_⟩
    · rw [Nat.testBit_div_two] at hi ⊢; exact h _ hi
    · have := h 0 (by rw [Nat.testBit_zero]; simp [hx])
      rw [Nat.testBit_zero] at this
      simpa using this
  · rintro ⟨h1, h2⟩ i hi
    cases i with
    | zero => rw [Nat.testBit_zero] at *; simp at *; exact h2 hi
    | succ i => rw [← Nat.testBit_div_two] at *; exact h1 i hi
theorem parts_count (a : Nat) : ((List.range (a + 1)).filter (partN a)).length = 2 ^ popc a := by
  induction a using Nat.strongRecOn with
  | ind a ih =>
    by_cases h0 : a = 0
    · subst h0; decide +kernel
    · have ih2 := ih (a / 2) (by omega)
      have he : ∀ n, partN a (2 * n) = partN (a / 2) n := fun n => by
        unfold partN; rw [decide_eq_decide, part_half, show 2 * n / 2 = n by omega]
        constructor
        · exact fun h => h.1
        · exact fun h => ⟨h, fun h2 => by omega⟩
      have ho : ∀ n, partN a (2 * n + 1) = (partN (a / 2) n && decide (a % 2 = 1)) := fun n => by
        rw [Bool.eq_iff_iff, Bool.and_eq_true, decide_eq_true_iff]
        unfold partN; rw [decide_eq_true_iff, decide_eq_true_iff, part_half, show (2 * n + 1) / 2 = n by omega]
        constructor
        · exact fun h => ⟨h.1, h.2 (by omega)⟩
        · exact fun h => ⟨h.1, fun _ => h.2⟩
      have hc := count_two (partN a) (a / 2 + 1)
      have e1 : (fun n => partN a (2 * n)) = partN (a / 2) := funext he
      rw [e1, ih2] at hc
      by_cases hodd : a % 2 = 1
      · have e2 : (fun n => partN a (2 * n + 1)) = partN (a / 2) := funext fun n => by rw [ho, decide_eq_true hodd, Bool.and_true]
        rw [e2, ih2, show 2 * (a / 2 + 1) = a + 1 by omega] at hc
        rw [hc, popc_step a, hodd, Nat.add_comm 1, Nat.pow_succ]; omega
      · have e2 : (fun n => partN a (2 * n + 1)) = fun _ => false := funext fun n => by rw [ho, decide_eq_false hodd, Bool.and_false]
        rw [e2, show 2 * (a / 2 + 1) = a + 1 + 1 by omega, List.range_succ, List.filter_append, List.length_append] at hc
        have e3 : partN a (a + 1) = false := by
          rw [show a + 1 = 2 * (a / 2) + 1 by omega, ho, decide_eq_false hodd, Bool.and_false]
        rw [List.filter_cons, e3] at hc
        have e4 : ((List.range (a / 2 + 1)).filter fun _ => false) = [] := by rw [List.filter_eq_nil_iff]; intro x _ h; cases h
        rw [e4] at hc
        simp at hc
        rw [hc, popc_step a, show a % 2 = 0 by omega, Nat.zero_add]
theorem parts_len (a : Nat) : (partsTo a (a + 1)).length = 2 ^ popc a := by
  unfold partsTo; rw [List.length_map]; exact parts_count a
theorem nl_trans {a b c : Nat} (h1 : nl a b = 0) (h2 : nl b c = 0) : nl a c = 0 := by
  rw [nl_zero] at *
  exact fun i hi => h2 i (h1 i hi)
theorem parts_mem {p : Nat} (hp : p < 4096) {x : Int} (h : x ∈ partsTo p (p + 1)) : ∃ t : Nat, x = (t : Int) ∧ t < 4096 ∧ nl t p = 0 := by
  unfold partsTo at h
  obtain ⟨t, ht, rfl⟩ := List.mem_map.1 h
  obtain ⟨h1, h2⟩ := List.mem_filter.1 ht
  rw [List.mem_range] at h1
  unfold partN at h2
  exact ⟨t, rfl, by omega, by simpa using h2⟩
theorem parts_up (p : Nat) : ∀ i (h : i + 1 < (partsTo p (p + 1)).length), (partsTo p (p + 1))[i] < (partsTo p (p + 1))[i + 1] := by
  intro i h
  have h1 : ((List.range (p + 1)).filter (partN p)).Pairwise (· < ·) := List.Pairwise.filter _ List.pairwise_lt_range
  have h2 := List.pairwise_iff_getElem.1 h1 i (i + 1) (by unfold partsTo at h; rw [List.length_map] at h; omega) (by unfold partsTo at h; rw [List.length_map] at h; omega) (by omega)
  simp only [partsTo, List.getElem_map]
  exact Int.ofNat_lt.2 h2
theorem parts_first (p : Nat) : ∀ h : 0 < (partsTo p (p + 1)).length, (partsTo p (p + 1))[0] = 0 := by
  intro h
  have e : partsTo p (p + 1) = 0 :: ((((List.range p).map (· + 1)).filter (partN p)).map Int.ofNat) := by
    unfold partsTo
    rw [List.range_succ_eq_map, List.filter_cons]
    have h0 : partN p 0 = true := by unfold partN; rw [decide_eq_true_iff, nl_zero]; intro i hi; rw [Nat.zero_testBit] at hi; cases hi
    rw [h0, if_pos rfl]
    rfl
  simp only [e, List.getElem_cons_zero]
theorem parts_last (p : Nat) : ∀ h : (partsTo p (p + 1)).length - 1 < (partsTo p (p + 1)).length, (partsTo p (p + 1))[(partsTo p (p + 1)).length - 1] = (p : Int) := by
  intro h
  have e : partsTo p (p + 1) = partsTo p p ++ [(p : Int)] := by
    rw [partsTo_succ]
    have h0 : partN p p = true := by unfold partN; rw [decide_eq_true_iff]; exact part_self p
    rw [h0]; rfl
  have e2 : (partsTo p (p + 1))[(partsTo p (p + 1)).length - 1]? = some (p : Int) := by
    rw [e, List.length_append, List.getElem?_append_right (by simp)]
    simp
  rw [List.getElem?_eq_getElem h] at e2
  exact Option.some.inj e2
end Go.Proofs.YtiebdhbioccogaaGreatDoor

namespace Go.Proofs.YtiebdhbioccogaaGreatDoor
open Go.RowKit
set_option linter.unusedVariables false
set_option maxRecDepth 100000

/-- The same class, with the bound that keeps. -/
def KeptP (ds : List D) (w : World) (e : Ending) (w' : World) : Prop :=
  ∃ A c, e = .returned (.agg #[.slice A ds.length c, .int .i64 3]) ∧ w'.ownsRow w.heap.size 108 2 (.slice A ds.length c) ds.length (flat ds) ∧ Below w.heap.size w w'
theorem vFlag_3 {ds : List D} {b : Int} (hv : vFlag ds b = true) : vFlag ds 3 = true := by
  unfold vFlag; rw [vFlag_defs hv]; rfl
end Go.Proofs.YtiebdhbioccogaaGreatDoor

namespace Go.Proofs.YtiebdhbioccogaaGreatDoor
open Go.RowKit Go.Maps
set_option linter.unusedVariables false
set_option maxRecDepth 100000

/-! ### plain facts on names of one bit and of several -/
theorem from_one {ds : List D} {b : Int} (hv : vFlag ds b = true) {d : D} (hd : d ∈ ds) : mFrom ds b [d.name] = ((d.val.toNat : Nat) : Int) ∧ mFromOk ds b [d.name] = true := by
  obtain ⟨h1, h2⟩ := from_names hv [d] (fun e he => by rw [List.mem_singleton.1 he]; exact hd)
  have e : mMask [d] = d.val.toNat := by simp [mMask]
  rw [e] at h1
  exact ⟨h1, h2⟩
theorem part_one {ds : List D} {d : D} (hd : d ∈ ds) : nl d.val.toNat (mMask ds) = 0 := by
  rw [nl_zero]; intro i hi
  rw [mMask_tb, List.any_eq_true]
  exact ⟨d, hd, hi⟩
theorem isV_one {ds : List D} {b : Int} (hv : vFlag ds b = true) {d : D} (hd : d ∈ ds) : d.val.toNat < 4096 ∧ mIsV ds b ((d.val.toNat : Nat) : Int) = true := by
  have h := vFlag_in hv d hd
  unfold inR at h
  have hl : d.val.toNat < 4096 := by omega
  exact ⟨hl, mIsV_of hv hl (.inr (part_one hd))⟩
theorem count_one {ds : List D} {b : Int} (hv : vFlag ds b = true) {d : D} (hd : d ∈ ds) : mCount ds b ((d.val.toNat : Nat) : Int) = ((popc d.val.toNat : Nat) : Int) := by
  unfold mCount
  rw [(isV_one hv hd).2, if_pos rfl, Int.toNat_natCast]
theorem sgTo_up (ds : List D) (k : Nat) : (sgTo ds k).Pairwise (fun x y => x.val.toNat < y.val.toNat) := by
  induction k with
  | zero => exact List.Pairwise.nil
  | succ k ih =>
    unfold sgTo
    rw [List.pairwise_append]
    refine ⟨ih, ?_, ?_⟩
    · have := sgAt_len ds k
      match h : sgAt ds k with
      | [] => exact List.Pairwise.nil
      | [a] => simp
      | a :: c :: r => rw [h] at this; simp at this
    · intro x hx y hy
      obtain ⟨_, i, hi, e⟩ := sgTo_in hx
      obtain ⟨_, e2⟩ := sgAt_in hy
      rw [e, e2, Int.toNat_natCast, Int.toNat_natCast]
      exact Nat.pow_lt_pow_right (by decide) hi
/-- What is so of the names of one bit. -/
structure SgL (ds : List D) (b : Int) (ss : List ByteArray) (gv : List Nat) : Prop where
  len : gv.length = ss.length
  at_ : ∀ k (h : k < ss.length) (h' : k < gv.length), gv[k] < 4096 ∧ 0 < gv[k] ∧ mFrom ds b [ss[k]] = (gv[k] : Int) ∧ mFromOk ds b [ss[k]] = true ∧ mCount ds b (gv[k] : Int) = 1
  up : ∀ k (h : k + 1 < gv.length), gv[k] < gv[k + 1]
  all : mNamesIn ds b ((mMask ds : Nat) : Int) = ss
theorem sg_law {ds : List D} {b : Int} (hv : vFlag ds b = true) : SgL ds b (mSgOf ds b) ((mSg ds).map fun d => d.val.toNat) := by
  have e : mSgOf ds b = (mSg ds).map (·.name) := if_yes hv
  rw [e]
  refine ⟨by rw [List.length_map, List.length_map], ?_, ?_, ?_⟩
  · intro k h h'
    rw [List.getElem_map, List.getElem_map]
    have hk : k < (mSg ds).length := by simpa using h
    have hm := List.getElem_mem hk
    generalize (mSg ds)[k] = d at *
    obtain ⟨h1, i, hi, e⟩ := sgTo_in hm
    have e2 : d.val.toNat = 2 ^ i := by rw [e, Int.toNat_natCast]
    refine ⟨(isV_one hv h1).1, by rw [e2]; exact Nat.two_pow_pos _, (from_one hv h1).1, (from_one hv h1).2, ?_⟩
    rw [count_one hv h1, e2, popc_pow]; rfl
  · intro k h
    rw [List.getElem_map, List.getElem_map]
    have := List.pairwise_iff_getElem.1 (sgTo_up ds 12) k (k + 1) (by have : k + 1 < (mSg ds).length := (by simpa using h); unfold mSg at this; omega) (by have : k + 1 < (mSg ds).length := (by simpa using h); unfold mSg at this; omega) (by omega)
    exact this
  · unfold mNamesIn
    rw [v_mask hv, if_pos rfl, Int.toNat_natCast]
    congr 1
    unfold mIn mWithin
    rw [List.filter_eq_self]
    intro d hd
    unfold fitIn
    exact decide_eq_true (part_one (sgTo_in hd).1)
/-- Definitions of one bit at most as many as single names. -/
theorem sg_few (ds : List D) (k : Nat) : (sgTo ds k).length ≤ ds.countP fun d => (List.range k).any fun i => decide (d.val = ((2 ^ i : Nat) : Int)) := by
  induction k with
  | zero => exact Nat.zero_le _
  | succ k ih =>
    have h1 : (ds.countP fun d => (List.range (k + 1)).any fun i => decide (d.val = ((2 ^ i : Nat) : Int))) = (ds.countP fun d => (List.range k).any fun i => decide (d.val = ((2 ^ i : Nat) : Int))) + ds.countP (isVal ((2 ^ k : Nat) : Int)) := by
      clear ih
      induction ds with
      | nil => rfl
      | cons d r ih =>
        rw [List.countP_cons, List.countP_cons, List.countP_cons, ih, List.range_succ, List.any_append]
        have e3 : ([k].any fun i => decide (d.val = ((2 ^ i : Nat) : Int))) = isVal ((2 ^ k : Nat) : Int) d := by
          simp [isVal]
          first | done | exact (beq_eq_decide ..).symm | rfl
        rw [e3]
        cases hk : isVal ((2 ^ k : Nat) : Int) d
        · simp; omega
        · have hno : ((List.range k).any fun i => decide (d.val = ((2 ^ i : Nat) : Int))) = false := by
            rw [List.any_eq_false]
            intro i hi h
            have hv : d.val = ((2 ^ k : Nat) : Int) := by unfold isVal at hk; simpa using hk
            have h2 : d.val = ((2 ^ i : Nat) : Int) := by simpa using h
            have h3 : 2 ^ i < 2 ^ k := Nat.pow_lt_pow_right (by decide) (List.mem_range.1 hi)
            omega
          rw [hno]; simp; omega
    rw [h1]
    unfold sgTo
    rw [List.length_append]
    have h2 : (sgAt ds k).length ≤ ds.countP (isVal ((2 ^ k : Nat) : Int)) := by
      unfold sgAt
      cases hf : ds.find? (isVal ((2 ^ k : Nat) : Int)) with
      | none => exact Nat.zero_le _
      | some d =>
        have : 0 < ds.countP (isVal ((2 ^ k : Nat) : Int)) := List.countP_pos_iff.2 ⟨d, List.mem_of_find?_eq_some hf, List.find?_some hf⟩
        simpa using this
    omega
theorem sg_comp_len (ds : List D) : (mComp ds).length + (mSg ds).length ≤ ds.length := by
  have h1 := sg_few ds 12
  have h2 : (mComp ds).length = ds.countP isComp := by unfold mComp; exact List.countP_eq_length_filter.symm
  have h3 : ds.countP isComp + (ds.countP fun d => (List.range 12).any fun i => decide (d.val = ((2 ^ i : Nat) : Int))) ≤ ds.length := by
    clear h1 h2
    induction ds with
    | nil => exact Nat.le_refl _
    | cons d r ih =>
      rw [List.countP_cons, List.countP_cons, List.length_cons]
      cases hc : isComp d
      · rw [if_neg (by decide)]; split <;> omega
      · have hno : ((List.range 12).any fun i => decide (d.val = ((2 ^ i : Nat) : Int))) = false := by
          rw [List.any_eq_false]
          intro i hi h
          have h2 : d.val = ((2 ^ i : Nat) : Int) := by simpa using h
          unfold isComp at hc
          rw [h2, Int.toNat_natCast, popc_pow] at hc
          simp at hc
        rw [hno, if_pos rfl, if_neg (by decide)]; omega
  unfold mSg
  omega
/-- What is so of the names of several bits. -/
structure CompL (ds : List D) (b : Int) (ss sg : List ByteArray) (gv : List Nat) : Prop where
  len : gv.length = ss.length
  at_ : ∀ k (h : k < ss.length) (h' : k < gv.length), gv[k] < 4096 ∧ mFrom ds b [ss[k]] = (gv[k] : Int) ∧ mFromOk ds b [ss[k]] = true ∧ (∃ q : Nat, 2 ≤ q ∧ q ≤ 4096 ∧ mCount ds b (gv[k] : Int) = (q : Int)) ∧ sg.any (hT ss[k]) = false
  few : ss.length + sg.length ≤ ds.length
theorem comp_law {ds : List D} {b : Int} (hv : vFlag ds b = true) : CompL ds b (mCompOf ds b) (mSgOf ds b) ((mComp ds).map fun d => d.val.toNat) := by
  have e : mSgOf ds b = (mSg ds).map (·.name) := if_yes hv
  have e2 : mCompOf ds b = (mComp ds).map (·.name) := if_yes hv
  rw [e, e2]
  refine ⟨by rw [List.length_map, List.length_map], ?_, ?_⟩
  · intro k h h'
    rw [List.getElem_map, List.getElem_map]
    have hk : k < (mComp ds).length := by simpa using h
    have hm := List.getElem_mem hk
    generalize (mComp ds)[k] = d at *
    obtain ⟨h1, h2⟩ := List.mem_filter.1 hm
    unfold isComp at h2
    have h3 : 1 < popc d.val.toNat := by simpa using h2
    have h4 := popc_le d.val.toNat
    have h5 := (isV_one hv h1).1
    refine ⟨h5, (from_one hv h1).1, (from_one hv h1).2, ⟨popc d.val.toNat, by omega, by omega, count_one hv h1⟩, ?_⟩
    rw [List.any_eq_false]
    intro s hs hss
    obtain ⟨x, hx, rfl⟩ := List.mem_map.1 hs
    obtain ⟨hx1, i, _, hx2⟩ := sgTo_in hx
    have := nm_one hv hx1 h1 (hT_iff.1 hss)
    subst this
    rw [hx2, Int.toNat_natCast, popc_pow] at h3
    omega
  · have := sg_comp_len ds
    rw [List.length_map, List.length_map]; exact this
/-- One text of a list. -/
theorem ss_sub {w : World} {B b o n c k : Nat} {ss : List ByteArray} (h : SS w B (some ⟨b, o, none⟩) n c ss) (hk : k < ss.length) : SS w B (some ⟨b, o + k, none⟩) 1 (c - k) ((ss.drop k).take 1) := by
  have hl := h.len
  have hc := h.cap
  refine ⟨?_, by rw [List.length_take, List.length_drop]; omega, by omega, by have := h.max; omega, fun s hs => h.ok s (List.mem_of_mem_drop (List.mem_of_mem_take hs))⟩
  rcases h.rd with rfl | ⟨b', o', hA, hb, hcl⟩
  · exact .inl (by simp)
  · cases hA
    refine .inr ⟨b, o + k, rfl, hb, fun i x hi j v hj => ?_⟩
    rw [List.getElem?_take] at hi
    split at hi
    · rw [List.getElem?_drop] at hi
      have := hcl (k + i) x hi j v hj
      rw [show o + k + i * 1 + j = o + (k + i) * 1 + j by omega]
      exact this
    · cases hi
end Go.Proofs.YtiebdhbioccogaaGreatDoor

namespace Go.Proofs.YtiebdhbioccogaaGreatDoor
open Go.RowKit Go.Maps
set_option linter.unusedVariables false
set_option maxRecDepth 100000

/-! ### what is so of a class of flags that is built -/
theorem bldF_pre (ts : List It) (k n : Nat) (hkn : k ≤ n) (hn : n ≤ ts.length) : (bldF ts n).take k = bldF ts k := by
  induction n with
  | zero => obtain rfl : k = 0 := by omega
            rfl
  | succ n ih =>
    by_cases e : k = n + 1
    · subst e; rw [List.take_of_length_le]; rw [bldF_len ts _ hn]; exact Nat.le_refl _
    · rw [bldF_succ ts n (by omega), List.take_append_of_le_length (by rw [bldF_len ts n (by omega)]; omega)]
      exact ih (by omega) (by omega)
theorem bldF_at (ts : List It) (k : Nat) (hk : k < ts.length) (h : k < (bldF ts ts.length).length) : (bldF ts ts.length)[k] = bldFD (bldF ts k) ts[k] := by
  have h1 := bldF_pre ts (k + 1) ts.length (by omega) (Nat.le_refl _)
  have hl := bldF_len ts k (by omega)
  have h2 : ((bldF ts ts.length).take (k + 1))[k]? = (bldF ts (k + 1))[k]? := by rw [h1]
  rw [List.getElem?_take_of_lt (by omega), List.getElem?_eq_getElem h, bldF_succ ts k hk, List.getElem?_append_right (by omega), hl] at h2
  simpa using h2
structure FFit (ts : List It) (b : Int) (ms : List D) : Prop where
  len : ms.length = ts.length
  name : ∀ k (h : k < ms.length) (h' : k < ts.length), ms[k].name = ts[k].name
  val : ∀ k (h : k < ms.length) (h' : k < ts.length), ts[k].auto = false → ms[k].val = ts[k].val
  up : ∀ k (h : k < ms.length) (h' : k < ts.length), ts[k].auto = true → ∀ i (hi : i < k), ms[i].val < ms[k].val
  one : ∀ k (h : k < ms.length) (h' : k < ts.length), ts[k].auto = true → ∃ x : Nat, ms[k].val = (x : Int) ∧ mCount ms 3 (x : Int) = 1
  ve : vFlag ms b = true
theorem ffit {ts : List It} {b : Int} (hb : builtF ts b = true) : FFit ts b (mBldF ts b) ∧ mBldB ts b = b := by
  have e : mBldF ts b = bldF ts ts.length := by unfold mBldF; rw [hb, if_pos rfl]
  have e2 : mBldB ts b = b := by unfold mBldB; rw [hb, if_pos rfl]
  unfold builtF at hb
  rw [Bool.and_eq_true] at hb
  obtain ⟨hvi, hv⟩ := hb
  have hl := bldF_len ts ts.length (Nat.le_refl _)
  rw [e]
  refine ⟨⟨hl, fun k h h' => by rw [bldF_at ts k h' h]; rfl, fun k h h' ha => by rw [bldF_at ts k h' h]; unfold bldFD; simp [ha], fun k h h' ha i hi => ?_, fun k h h' ha => ?_, hv⟩, e2⟩
  · have hpre := bldF_pre ts k ts.length (by omega) (Nat.le_refl _)
    have hlk := bldF_len ts k (by omega)
    have hmem : (bldF ts ts.length)[i] ∈ bldF ts k := by
      rw [← hpre]
      have hit : i < ((bldF ts ts.length).take k).length := by rw [hpre, hlk]; exact hi
      have := List.getElem_mem hit
      rwa [List.getElem_take] at this
    have h0 := (vFlag_in hv _ (List.getElem_mem (show i < (bldF ts ts.length).length by omega))).1
    have hp := part_one hmem
    have hle := nl_add_and (bldF ts ts.length)[i].val.toNat (mMask (bldF ts k))
    rw [hp] at hle
    have hle2 := and_le (mMask (bldF ts k)) (bldF ts ts.length)[i].val.toNat
    rw [Nat.and_comm] at hle2
    have hlt := blen_lt (mMask (bldF ts k))
    have e3 : (bldF ts ts.length)[k].val = ((2 ^ blen (mMask (bldF ts k)) : Nat) : Int) := by rw [bldF_at ts k h' h]; unfold bldFD mNb; simp [ha]
    rw [e3]
    omega
  · have e3 : (bldF ts ts.length)[k].val = ((2 ^ blen (mMask (bldF ts k)) : Nat) : Int) := by rw [bldF_at ts k h' h]; unfold bldFD mNb; simp [ha]
    refine ⟨_, e3, ?_⟩
    have h3 := count_one (vFlag_3 hv) (List.getElem_mem h)
    rw [e3, Int.toNat_natCast, popc_pow] at h3
    exact h3
end Go.Proofs.YtiebdhbioccogaaGreatDoor

namespace Go.Proofs.YtiebdhbioccogaaGreatDoor
open Go.RowKit
set_option linter.unusedVariables false
set_option maxRecDepth 100000



end Go.Proofs.YtiebdhbioccogaaGreatDoor

namespace Go.Proofs.YtiebdhbioccogaaGreatDoor
open Go.RowKit
set_option linter.unusedVariables false
set_option maxRecDepth 100000

/-- Drawn items. -/
def DrawT (w : World) (e : Ending) (w' : World) : Prop :=
  ∃ (A : Option Addr) (c : Nat) (ts : List It), e = .returned (.slice A ts.length c) ∧ ts.length ≤ 12 ∧ (∀ t ∈ ts, t.small) ∧ ST w' w'.heap.size A ts.length c ts ∧ Below w.heap.size w w'

theorem mBuild_len (ts : List It) : (mBuild ts).length ≤ 12 := by
  unfold mBuild built
  split
  · rename_i h
    simp only [Bool.and_eq_true] at h
    exact vEnum_len h.2
  · simp
theorem mBuild_ok {ts : List It} (h : ∀ t ∈ ts, t.ok) : ∀ d ∈ mBuild ts, d.ok := by
  unfold mBuild
  split
  · exact bld_ok h _ (Nat.le_refl _)
  · intro d hd; cases hd
/-- What is so of what is built. -/
structure BFit (ts : List It) (ms : List D) : Prop where
  len : ms.length = ts.length
  name : ∀ k (h : k < ms.length) (h' : k < ts.length), ms[k].name = ts[k].name
  val : ∀ k (h : k < ms.length) (h' : k < ts.length), ts[k].auto = false → ms[k].val = ts[k].val
  up : ∀ k (h : k < ms.length) (h' : k < ts.length), ts[k].auto = true → ∀ i (hi : i < k), ms[i].val < ms[k].val
  ve : vEnum ms = true
theorem le_hiTo (ds : List D) (i k : Nat) (hi : i < k) (h : i < ds.length) : ds[i].val ≤ hiTo ds k := by
  induction k with
  | zero => omega
  | succ k ih =>
    show ds[i].val ≤ max (hiTo ds k) (valAt ds k)
    by_cases e : i = k
    · subst e; rw [valAt_get ds i h]; omega
    · have := ih (by omega); omega
theorem bfit {ts : List It} (h : built ts = true) : BFit ts (mBuild ts) := by
  have e : mBuild ts = bld ts ts.length := by unfold mBuild; rw [h]; rfl
  unfold built at h
  simp only [Bool.and_eq_true] at h
  obtain ⟨hv, hve⟩ := h
  rw [e]
  have hl := bld_len ts ts.length (Nat.le_refl _)
  have hget : ∀ k (h : k < (bld ts ts.length).length) (h' : k < ts.length), (bld ts ts.length)[k] = bldD (bld ts k) ts[k] := fun k h h' => by
    have := bld_get ts k ts.length h' (Nat.le_refl _)
    rw [List.getElem?_eq_getElem h] at this
    exact Option.some.inj this
  refine ⟨hl, fun k h h' => by rw [hget k h h']; rfl, fun k h h' ha => by rw [hget k h h']; unfold bldD; simp [ha], fun k h h' ha i hi => ?_, hve⟩
  rw [hget k h h']
  have hk0 : bld ts k ≠ [] := fun e => by have := bld_len ts k (by omega); rw [e] at this; simp at this; omega
  have hb := bld_bd hv k (by omega)
  have hlk := bld_len ts k (by omega)
  have e1 : (bldD (bld ts k) ts[k]).val = hiTo (bld ts k) (bld ts k).length + 1 := by
    unfold bldD nxt
    simp only [ha, if_true, if_neg hk0]
    have a := hiTo_le hk0 (fun d hd => (hb d hd).2) (bld ts k).length (Nat.le_refl _)
    have b := hiTo_ge hk0 (fun d hd => (hb d hd).1) (bld ts k).length (Nat.le_refl _)
    have c : ts.length ≤ 12 := by unfold vItems at hv; simp at hv; exact hv.2
    show IntKind.i64.wrap (hiTo (bld ts k) (bld ts k).length + 1) = _
    rw [IntKind.wrap_i64]
    omega
  have e2 : (bld ts ts.length)[i] = (bld ts k)[i]'(by omega) := by
    have h1 := bld_take ts k ts.length (by omega) (Nat.le_refl _)
    have h2 : ((bld ts ts.length).take k)[i]'(by rw [h1]; omega) = (bld ts k)[i]'(by omega) := by simp only [h1]
    rw [List.getElem_take] at h2
    exact h2
  rw [e1, e2]
  have := le_hiTo (bld ts k) i (bld ts k).length (by omega) (by omega)
  omega
/-- The items that tell just these definitions. -/
def again (ms : List D) : List It := ms.map fun d => ⟨d.name, false, d.val⟩
theorem again_len (ms : List D) : (again ms).length = ms.length := by simp [again]
theorem again_get (ms : List D) (k : Nat) (h : k < ms.length) : (again ms)[k]'(by rw [again_len]; exact h) = ⟨ms[k].name, false, ms[k].val⟩ := by simp [again]
theorem bld_again (ms : List D) (k : Nat) (hk : k ≤ ms.length) : bld (again ms) k = ms.take k := by
  induction k with
  | zero => simp [bld]
  | succ k ih =>
    rw [bld_succ _ k (by rw [again_len]; omega), ih (by omega), again_get ms k (by omega), List.take_succ_eq_append_getElem (by omega)]
    rfl
theorem built_again {ms : List D} (h : vEnum ms = true) : built (again ms) = true ∧ mBuild (again ms) = ms := by
  have e : bld (again ms) (again ms).length = ms := by rw [again_len, bld_again ms _ (Nat.le_refl _), List.take_of_length_le (Nat.le_refl _)]
  have h1 : built (again ms) = true := by
    rw [built_of (fun i hi _ => by rw [again_len] at hi; rw [again_get ms i hi]; rfl) (by rw [again_len]; exact vEnum_len h), e]
    exact h
  exact ⟨h1, by unfold mBuild; rw [h1, if_pos rfl, e]⟩
theorem again_ok {ms : List D} (h : ∀ d ∈ ms, d.ok) : ∀ t ∈ again ms, t.ok := by
  intro t ht
  obtain ⟨d, hd, rfl⟩ := List.mem_map.1 ht
  exact h d hd
theorem flatT_again (ms : List D) (k : Nat) (h : k < ms.length) : flatT (again (ms.take (k + 1))) = flatT (again (ms.take k)) ++ [.string ms[k].name, .bool false, .int .i64 ms[k].val] := by
  rw [List.take_succ_eq_append_getElem h]
  unfold again flatT
  rw [List.map_append, List.flatMap_append]
  rfl
end Go.Proofs.YtiebdhbioccogaaGreatDoor

namespace Go.Proofs.YtiebdhbioccogaaGreatDoor
open Go.RowKit
set_option linter.unusedVariables false
set_option maxRecDepth 100000

/-! ### texts of classes are read back: no program in sight -/
def line0 (d : D) : ByteArray := (d.name ++ eqB) ++ itoaB d.val
theorem itoaB_nonl (v : Int) : ∀ c ∈ (itoaB v).data.toList, c ≠ 10 := by
  intro c hc e
  subst e
  by_cases h : v < 0
  · obtain ⟨n, _, _, e⟩ := itoaB_head h
    rw [e] at hc
    rcases List.mem_cons.1 hc with hc | hc
    · exact absurd hc (by decide)
    · have := dec_digit n 10 (by simpa [decB] using hc)
      have : (10 : UInt8).toNat = 10 := rfl
      omega
  · obtain ⟨n, rfl⟩ : ∃ n : Nat, v = n := ⟨v.toNat, by omega⟩
    rw [itoaB_pos] at hc
    have := dec_digit n 10 (by simpa [decB] using hc)
    have : (10 : UInt8).toNat = 10 := rfl
    omega
theorem name_byte {s : ByteArray} (h : vName s = true) : ∀ c ∈ s.data.toList, c ≠ 10 ∧ c ≠ 32 := by
  intro c hc
  unfold vName okTo at h
  simp only [Bool.and_eq_true, decide_eq_true_eq] at h
  have h2 := h.2
  rw [List.take_of_length_le (by rw [Array.length_toList]; exact Nat.le_refl _), List.all_eq_true] at h2
  have h3 := h2 c hc
  refine ⟨fun e => ?_, fun e => ?_⟩ <;> (subst e; exact absurd h3 (by decide))
theorem line0_list (d : D) : (line0 d).data.toList = d.name.data.toList ++ 32 :: 61 :: 32 :: (itoaB d.val).data.toList := by
  unfold line0
  rw [ByteArray.data_append, ByteArray.data_append, Array.toList_append, Array.toList_append, List.append_assoc]
  rfl
theorem line0_nonl {d : D} (h : vName d.name = true) : ∀ c ∈ (line0 d).data.toList, c ≠ 10 := by
  intro c hc
  rw [line0_list] at hc
  rcases List.mem_append.1 hc with hc | hc
  · exact (name_byte h c hc).1
  · rcases List.mem_cons.1 hc with rfl | hc
    · decide
    · rcases List.mem_cons.1 hc with rfl | hc
      · decide
      · rcases List.mem_cons.1 hc with rfl | hc
        · decide
        · exact itoaB_nonl _ c hc
theorem pcs_lines : ∀ ds : List D, (∀ d ∈ ds, vName d.name = true) → pcs 10 [] (linesB ds).data.toList = ds.map (fun d => (line0 d).data.toList) ++ [[]]
  | [], _ => rfl
  | d :: r, h => by
    have e : (linesB (d :: r)).data.toList = (line0 d).data.toList ++ 10 :: (linesB r).data.toList := by
      rw [linesB, ByteArray.data_append, Array.toList_append]
      have e2 : (lineB d).data.toList = (line0 d).data.toList ++ [10] := by
        show ((line0 d) ++ nlB).data.toList = _
        rw [ByteArray.data_append, Array.toList_append]
        rfl
      rw [e2, List.append_assoc]
      rfl
    rw [e, pcs_hit 10 _ [] _ (line0_nonl (h d (List.mem_cons_self ..))), pcs_lines r (fun x hx => h x (List.mem_cons_of_mem _ hx))]
    rfl
theorem split_head {h : ByteArray} (hh : ∀ c ∈ h.data.toList, c ≠ 10) {ds : List D} (hn : ∀ d ∈ ds, vName d.name = true) : splitT 10 ((h ++ nlB) ++ linesB ds) = (h :: ds.map line0) ++ [⟨#[]⟩] := by
  have e : ((h ++ nlB) ++ linesB ds).data.toList = h.data.toList ++ 10 :: (linesB ds).data.toList := by
    rw [ByteArray.data_append, Array.toList_append, ByteArray.data_append, Array.toList_append, List.append_assoc]
    rfl
  unfold splitT
  rw [e, pcs_hit 10 _ [] _ hh, pcs_lines ds hn]
  simp only [List.nil_append, List.map_cons, List.map_append, List.map_map, List.map_nil, List.cons_append]
  refine congr (congrArg List.cons (mk_list h)) ?_
  congr 1
theorem mLn_head {h : ByteArray} (hh : ∀ c ∈ h.data.toList, c ≠ 10) {ds : List D} (hn : ∀ d ∈ ds, vName d.name = true) : mLn ((h ++ nlB) ++ linesB ds) = some (h :: ds.map line0) := by
  unfold mLn
  rw [split_head hh hn, List.getLast?_concat, List.dropLast_concat, if_pos]
  exact ⟨by simp, rfl⟩
theorem itS_line {d : D} (hn : vName d.name = true) (h0 : -4096 ≤ d.val) (h1 : d.val ≤ 4096) : itS (line0 d) = some ⟨d.name, false, d.val⟩ := by
  have hs : splitT 32 (line0 d) = [d.name, eq1B, itoaB d.val] := by
    unfold splitT
    rw [line0_list, pcs_hit 32 _ [] _ (fun b hb => (name_byte hn b hb).2), show (61 : UInt8) :: 32 :: (itoaB d.val).data.toList = [61] ++ 32 :: (itoaB d.val).data.toList from rfl, pcs_hit 32 [61] [] _ (by intro b hb; rw [List.mem_singleton.1 hb]; decide), pcs_miss 32 _ [] (itoaB_nospace _)]
    simp only [List.nil_append, List.map_cons, List.map_nil]
    rw [mk_list, mk_list]
    rfl
  have hr : rdSg (itoaB d.val) = some d.val := by
    unfold rdSg
    rw [numOf_itoa (by omega) (by omega)]
    simp only
    rw [if_pos ⟨h0, h1⟩]
  unfold itS
  rw [hs]
  simp only [if_true]
  rw [hr]
theorem all_line : ∀ {ds : List D}, (∀ d ∈ ds, vName d.name = true ∧ -4096 ≤ d.val ∧ d.val ≤ 4096) → allIt itS (ds.map line0) = some (again ds)
  | [], _ => rfl
  | d :: r, h => by
    obtain ⟨a, b, c⟩ := h d (List.mem_cons_self ..)
    rw [List.map_cons, allIt, itS_line a b c]
    simp only
    rw [all_line (fun x hx => h x (List.mem_cons_of_mem _ hx))]
    rfl
theorem enum_line {ds : List D} (hv : vEnum ds = true) : ∀ d ∈ ds, vName d.name = true ∧ -4096 ≤ d.val ∧ d.val ≤ 4096 := by
  intro d hd
  have h1 := vEnum_name hv d hd
  have h2 := vEnum_val hv d hd
  exact ⟨h1, by omega, by omega⟩
theorem mEnumT_yes {ds : List D} (hv : vEnum ds = true) : mEnumT ds = (enumB ++ nlB) ++ linesB ds := by unfold mEnumT; rw [if_pos hv]
theorem enumB_nonl : ∀ c ∈ enumB.data.toList, c ≠ 10 := by decide
theorem items_enum {ds : List D} (hv : vEnum ds = true) : itemsOf itS (mEnumT ds) = some (enumB, again ds) := by
  have h := enum_line hv
  rw [mEnumT_yes hv]
  exact itemsOf_yes (mLn_head enumB_nonl (fun d hd => (h d hd).1)) (all_line h)
theorem pe_again {ds : List D} (hv : vEnum ds = true) : mPE (mEnumT ds) = ds ∧ okPE (mEnumT ds) = true := by
  obtain ⟨e1, e2⟩ := pe_yes (items_enum hv)
  obtain ⟨b1, b2⟩ := built_again hv
  rw [e1, e2, if_pos rfl, b1, b2]
  exact ⟨rfl, rfl⟩
/-- How many newlines a text has. -/
def nls (s : ByteArray) : Nat := (splitT 10 s).length - 1
theorem nls_mLn {s : ByteArray} {l : List ByteArray} (h : mLn s = some l) : nls s = l.length := by
  unfold mLn at h
  split at h
  · cases h
    unfold nls
    rw [List.length_dropLast]
  · cases h
theorem allIt_len {f : ByteArray → Option It} : ∀ {l : List ByteArray} {ts : List It}, allIt f l = some ts → ts.length = l.length
  | [], ts, h => by rw [allIt] at h; cases h; rfl
  | s :: r, ts, h => by
    rw [allIt] at h
    split at h
    · split at h
      · rename_i us hu
        cases h
        rw [List.length_cons, List.length_cons, allIt_len hu]
      · cases h
    · cases h
theorem nls_items {f : ByteArray → Option It} {s h : ByteArray} {ts : List It} (hi : itemsOf f s = some (h, ts)) : nls s = ts.length + 1 := by
  unfold itemsOf at hi
  split at hi
  · rename_i h' ls hm
    split at hi
    · rename_i us hu
      obtain ⟨rfl, rfl⟩ := Prod.mk.inj (Option.some.inj hi)
      rw [nls_mLn hm, List.length_cons, allIt_len hu]
    · cases hi
  · cases hi
theorem nls_enum {ds : List D} (hv : vEnum ds = true) : nls (mEnumT ds) = ds.length + 1 := by rw [nls_items (items_enum hv), again_len]
theorem fhs_ne : ∀ x ∈ fhs, enumB ≠ x := by decide
/-- What is so of a text that is one of an enumeration. -/
structure PEFit (s : ByteArray) (ms : List D) : Prop where
  ve : vEnum ms = true
  nl : nls s = ms.length + 1
  noF : okPF s = false
theorem pe_fit {s : ByteArray} (h : okPE s = true) : PEFit s (mPE s) := by
  cases hi : itemsOf itS s with
  | none => rw [(pe_no hi).2] at h; cases h
  | some p =>
    obtain ⟨x, ts⟩ := p
    obtain ⟨e1, e2⟩ := pe_yes hi
    rw [e2, Bool.and_eq_true, decide_eq_true_eq] at h
    obtain ⟨hx, hb⟩ := h
    rw [e1, if_pos hx]
    have hf := bfit hb
    refine ⟨hf.ve, by rw [nls_items hi, hf.len], ?_⟩
    rw [(pf_yes hi).2.2]
    refine builtF_neg ?_
    rcases bndH_cases x with ⟨e, _⟩ | ⟨j, hj, _, e⟩
    · omega
    · exfalso
      exact fhs_ne _ (List.getElem_mem hj) (hx.symm.trans e)

/-! ### the same of classes of flags -/
theorem bldF_again (ms : List D) (k : Nat) (hk : k ≤ ms.length) : bldF (again ms) k = ms.take k := by
  induction k with
  | zero => simp [bldF]
  | succ k ih =>
    rw [bldF_succ _ k (by rw [again_len]; omega), ih (by omega), again_get ms k (by omega), List.take_succ_eq_append_getElem (by omega)]
    rfl
theorem builtF_again {ms : List D} {b : Int} (h : vFlag ms b = true) : builtF (again ms) b = true ∧ mBldF (again ms) b = ms ∧ mBldB (again ms) b = b := by
  have e : bldF (again ms) (again ms).length = ms := by rw [again_len, bldF_again ms _ (Nat.le_refl _), List.take_of_length_le (Nat.le_refl _)]
  have hvi : vItems 0 4095 (again ms) = true := by
    refine vItems_of (es := ms) (again_len ms).symm (fun i hi => ?_) (fun i hi _ => by rw [again_len] at hi; rw [again_get ms i hi]; rfl) (by rw [again_len]; exact vDefs_len (vFlag_defs h)) (vFlag_defs h)
    rw [again_len] at hi
    refine ⟨ms[i], List.getElem?_eq_getElem hi, ?_, fun _ => ?_⟩ <;> rw [again_get ms i hi]
  have h1 : builtF (again ms) b = true := by unfold builtF; rw [hvi, e, h]; rfl
  exact ⟨h1, by unfold mBldF; rw [h1, if_pos rfl, e], by unfold mBldB; rw [h1, if_pos rfl]⟩
theorem flag_line {ds : List D} {b : Int} (hv : vFlag ds b = true) : ∀ d ∈ ds, vName d.name = true ∧ -4096 ≤ d.val ∧ d.val ≤ 4096 := by
  intro d hd
  obtain ⟨k, hk, rfl⟩ := List.mem_iff_getElem.1 hd
  have hg := vDefs_good (vFlag_defs hv) k hk hk
  unfold goodAt at hg
  simp only [Bool.and_eq_true, decide_eq_true_eq] at hg
  exact ⟨hg.1.1, by omega, by omega⟩
theorem mFlagT_yes {ds : List D} {b : Int} (hv : vFlag ds b = true) : mFlagT ds b = ((flagB ++ boundB b) ++ nlB) ++ linesB ds := by unfold mFlagT; rw [if_pos hv]
theorem bndH_head {b : Int} (h0 : 0 ≤ b) (h3 : b ≤ 3) : bndH (flagB ++ boundB b) = b ∧ ∀ c ∈ (flagB ++ boundB b).data.toList, c ≠ 10 := by
  rcases (show b = 0 ∨ b = 1 ∨ b = 2 ∨ b = 3 by omega) with rfl | rfl | rfl | rfl <;> exact ⟨by decide +kernel, by decide +kernel⟩
theorem items_flag {ds : List D} {b : Int} (hv : vFlag ds b = true) : itemsOf itS (mFlagT ds b) = some (flagB ++ boundB b, again ds) := by
  have h := flag_line hv
  have hb := vFlag_bound hv
  rw [mFlagT_yes hv]
  exact itemsOf_yes (mLn_head (bndH_head hb.1 hb.2).2 (fun d hd => (h d hd).1)) (all_line h)
theorem pf_again {ds : List D} {b : Int} (hv : vFlag ds b = true) : mPF (mFlagT ds b) = ds ∧ bPF (mFlagT ds b) = b ∧ okPF (mFlagT ds b) = true := by
  have hb := vFlag_bound hv
  obtain ⟨e1, e2, e3⟩ := pf_yes (items_flag hv)
  rw [(bndH_head hb.1 hb.2).1] at e1 e2 e3
  obtain ⟨b1, b2, b3⟩ := builtF_again hv
  rw [e1, e2, e3, b1, b2, b3]
  exact ⟨rfl, rfl, rfl⟩
theorem nls_flag {ds : List D} {b : Int} (hv : vFlag ds b = true) : nls (mFlagT ds b) = ds.length + 1 := by rw [nls_items (items_flag hv), again_len]
structure PFFit (s : ByteArray) (ms : List D) (b : Int) : Prop where
  ve : vFlag ms b = true
  nl : nls s = ms.length + 1
  noE : okPE s = false
theorem pf_fit {s : ByteArray} (h : okPF s = true) : PFFit s (mPF s) (bPF s) := by
  cases hi : itemsOf itS s with
  | none => rw [(pf_no hi).2.2] at h; cases h
  | some p =>
    obtain ⟨x, ts⟩ := p
    obtain ⟨e1, e2, e3⟩ := pf_yes hi
    rw [e3] at h
    have hf := ffit h
    rw [e1, e2, hf.2]
    refine ⟨hf.1.ve, by rw [nls_items hi, hf.1.len], ?_⟩
    rw [(pe_yes hi).2]
    rcases bndH_cases x with ⟨e, _⟩ | ⟨j, hj, _, e⟩
    · rw [e, builtF_neg (by decide)] at h; cases h
    · rw [decide_eq_false, Bool.false_and]
      rw [e]
      exact fun h2 => fhs_ne _ (List.getElem_mem hj) h2.symm
end Go.Proofs.YtiebdhbioccogaaGreatDoor

namespace Go.Proofs.YtiebdhbioccogaaGreatDoor
open Go.RowKit
set_option linter.unusedVariables false
set_option linter.unusedSimpArgs false
set_option maxRecDepth 100000

theorem et_size {ds : List D} (hv : vEnum ds = true) : (mEnumT ds).size ≤ 500 := by
  have h := linesB_size ds (enum_small hv)
  have h2 := vEnum_len hv
  rw [mEnumT_yes hv, ByteArray.size_append, ByteArray.size_append]
  show 4 + 1 + _ ≤ 500
  omega
theorem ft_size {ds : List D} {b : Int} (hv : vFlag ds b = true) : (mFlagT ds b).size ≤ 500 := by
  have h := linesB_size ds (flag_small hv)
  have h2 := vDefs_len (vFlag_defs hv)
  have h3 := boundB_size b
  rw [mFlagT_yes hv, ByteArray.size_append, ByteArray.size_append, ByteArray.size_append]
  show 5 + _ + 1 + _ ≤ 500
  omega
structure EtLaw (ds : List D) (s : ByteArray) : Prop where
  pe : mPE s = ds
  ok : okPE s = true
  nl : nls s = ds.length + 1
  size : s.size ≤ 500
  len : ds.length ≤ 12
theorem et_law {ds : List D} {s : ByteArray} (h : mEnumT ds = s) (hne : s ≠ ⟨#[]⟩) : EtLaw ds s := by
  cases hv : vEnum ds
  · exfalso
    unfold mEnumT at h
    rw [hv] at h
    exact hne h.symm
  · obtain ⟨a, b⟩ := pe_again hv
    have c := nls_enum hv
    have d := et_size hv
    rw [h] at a b c d
    exact ⟨a, b, c, d, vEnum_len hv⟩
structure FtLaw (ds : List D) (b : Int) (s : ByteArray) : Prop where
  pf : mPF s = ds
  bd : bPF s = b
  ok : okPF s = true
  nl : nls s = ds.length + 1
  size : s.size ≤ 500
  len : ds.length ≤ 12
theorem ft_law {ds : List D} {b : Int} {s : ByteArray} (h : mFlagT ds b = s) (hne : s ≠ ⟨#[]⟩) : FtLaw ds b s := by
  cases hv : vFlag ds b
  · exfalso
    unfold mFlagT at h
    rw [hv] at h
    exact hne h.symm
  · obtain ⟨a, b', b''⟩ := pf_again hv
    have c := nls_flag hv
    have d := ft_size hv
    rw [h] at a b' b'' c d
    exact ⟨a, b', b'', c, d, vDefs_len (vFlag_defs hv)⟩

set_option maxHeartbeats 2000000 in
theorem newlines_v (s : ByteArray) (w : World) (hs : s.size ≤ 1048576) {q : Nat} (hq : nls s = q) :
    Calls Tryz.prog 11 #[.string s] w fun e w' => e = .returned (.int .i64 (q : Int)) ∧ w = w' := by
  have HQ := Lib.hid hq
  clear hq
  go_enter Tryz.func11, Tryz.ntmps11
  go_wp2
  go_loop [3, 4] (fun m i => ∃ (k j : Nat) (done : List ByteArray), k ≤ s.size ∧ j ≤ k ∧ m = .int .i64 (done.length : Int) ∧ done.length ≤ k ∧ i = .int .i64 k ∧ Hid (splSt 10 s done j k)) (fun _ i => s.size - (intOf i).toNat)
  case atStart => exact ⟨0, 0, [], Nat.zero_le _, Nat.le_refl _, rfl, Nat.zero_le _, rfl, Lib.hid (spl_zero 10 s)⟩
  case round =>
    obtain ⟨k, j, done, hk, hj, rfl, hd, rfl, hst⟩ := hrel
    by_cases hlt : k < s.size
    · have hi1 : (k : Int) < (s.size : Int) := by omega
      have hi0 : (0 : Int) ≤ (k : Int) := by omega
      by_cases he : s[k] = 10
      · have e1 : ((s[k].toNat : Int) == 10) = true := by rw [he]; rfl
        have HST := Lib.hid (spl_hit hlt he hst.out)
        clear he
        go_wp2
        go_round
        case rel => exact ⟨k + 1, k + 1, done ++ [s.extract j k], by omega, Nat.le_refl _, by rw [List.length_append, List.length_singleton]; go_num, by rw [List.length_append, List.length_singleton]; omega, by go_num, HST⟩
        case measure => simp [intOf]; omega
      · have e1 : ((s[k].toNat : Int) == 10) = false := by
          rw [beq_eq_false_iff_ne]
          intro e
          exact he (UInt8.toNat_inj.1 (by show s[k].toNat = 10; omega))
        have HST := Lib.hid (spl_miss hj hlt he hst.out)
        clear he
        go_wp2
        go_round
        case rel => exact ⟨k + 1, j, done, by omega, by omega, rfl, by omega, by go_num, HST⟩
        case measure => simp [intOf]; omega
    · obtain rfl : k = s.size := by omega
      have hi9 : ¬ (s.size : Int) < (s.size : Int) := by omega
      have HR : Hid (done.length = q) := Lib.hid (by
        have h := HQ.out
        unfold nls at h
        rw [spl_end hst.out, List.length_append, List.length_singleton] at h
        omega)
      go_wp2
      go_ret
      exact ⟨by rw [HR.out]; first | done | rfl, rfl⟩
theorem newlines_w (s : ByteArray) (w : World) (hs : s.size ≤ 1048576) {q : Nat} (hq : nls s = q) :
    Calls Tryz.prog 11 #[.string s] w fun e w' => e = .returned (.int .i64 (q : Int)) ∧ Below w.heap.size w w' :=
  (newlines_v s w hs hq).mono fun e w' ⟨h1, h2⟩ => ⟨h1, by rw [← h2]; exact Below.refl _ _⟩
end Go.Proofs.YtiebdhbioccogaaGreatDoor

namespace Go.Proofs.YtiebdhbioccogaaGreatDoor
open Go.RowKit
set_option linter.unusedVariables false
set_option maxRecDepth 100000

/-! ### what the laws of flags ask: plain facts -/
theorem nl_and_mask (a m : Nat) : nl (a &&& m) m = 0 := by
  rw [nl_zero]; intro i hi; rw [Nat.testBit_and] at hi; simp at hi; exact hi.2
theorem nl_nl_mask (m k : Nat) : nl (nl m k) m = 0 := by
  rw [nl_zero]; intro i hi; rw [tb_nl] at hi; simp at hi; exact hi.1
theorem mMade_self {ds : List D} {b x : Int} (hx : 0 ≤ x) (h : b = 3 ∨ nl x.toNat (mMask ds) = 0) : mMade ds b x = (x, 0) := by
  by_cases hz : nl x.toNat (mMask ds) = 0
  · exact mMade_in (by omega) hz
  · rcases h with rfl | h
    · rw [mMade_un (by omega) hz]; rfl
    · exact absurd h hz
theorem mValue_of {ds : List D} {b n : Int} (hv : vFlag ds b = true) (h0 : 0 ≤ n) (h1 : n ≤ 4095) : mValue ds b n = mMade ds b n := by
  have : inV n = true := by unfold inV; simp; omega
  unfold mValue; rw [hv, this]; rfl
/-- What is made is a value, and makes itself. -/
theorem made_again {ds : List D} {b n : Int} (h : (mValue ds b n).2 = 0) : vFlag ds b = true ∧ 0 ≤ (mValue ds b n).1 ∧ (mValue ds b n).1 ≤ 4095 ∧ mValue ds b (mValue ds b n).1 = ((mValue ds b n).1, 0) := by
  cases hv : vFlag ds b
  · unfold mValue at h; rw [hv] at h; simp at h
  cases hn : inV n
  · unfold mValue at h; rw [hv, hn] at h; simp at h
  have e : mValue ds b n = mMade ds b n := by unfold mValue; rw [hv, hn]; rfl
  rw [e] at h ⊢
  have hin := vFlag_in hv
  have hbd := vFlag_bound hv
  have hm := mMask_lt12 hin
  have hw := mWhole_lt (b := b) hin
  have hn2 : -4096 ≤ n ∧ n ≤ 4095 := by unfold inV at hn; simpa using hn
  have key : ∀ x : Nat, x < 4096 → (b = 3 ∨ nl x (mMask ds) = 0) → True ∧ 0 ≤ (x : Int) ∧ (x : Int) ≤ 4095 ∧ mValue ds b (x : Int) = ((x : Int), 0) := by
    intro x hx hc
    refine ⟨trivial, by omega, by omega, ?_⟩
    rw [mValue_of hv (by omega) (by omega)]
    exact mMade_self (by omega) (by simpa using hc)
  have fin : ∀ x : Nat, x < 4096 → (b = 3 ∨ nl x (mMask ds) = 0) → mMade ds b n = ((x : Int), 0) → true = true ∧ 0 ≤ (mMade ds b n).1 ∧ (mMade ds b n).1 ≤ 4095 ∧ mValue ds b (mMade ds b n).1 = ((mMade ds b n).1, 0) := by
    intro x hx hc he
    rw [he]
    exact ⟨rfl, (key x hx hc).2⟩
  by_cases hneg : n < 0
  · have hk : (-n - 1).toNat < 4096 := by omega
    refine fin _ (nl_lt hw) ?_ (mMade_neg hneg)
    by_cases h3 : b = 3
    · exact .inl h3
    · right
      unfold mWhole; rw [if_neg h3]; exact nl_nl_mask _ _
  · obtain ⟨m, rfl⟩ : ∃ m : Nat, n = m := ⟨n.toNat, by omega⟩
    by_cases hz : nl m (mMask ds) = 0
    · exact fin m (by omega) (.inr hz) (mMade_in hneg (by simpa using hz))
    · have hu := mMade_un (ds := ds) (b := b) hneg (by simpa using hz)
      rcases (show b = 0 ∨ b = 1 ∨ b = 2 ∨ b = 3 by omega) with rfl | rfl | rfl | rfl
      · rw [hu] at h; simp at h
      · exact fin (m &&& mMask ds) (and_lt (by omega)) (.inr (nl_and_mask _ _)) (by rw [hu]; simp)
      · rw [hu] at h; simp at h
      · exact fin m (by omega) (.inl rfl) (by rw [hu]; simp)
theorem made_isV {ds : List D} {b x : Int} (hv : vFlag ds b = true) (h : mValue ds b x = (x, 0)) : mIsV ds b x = true := by
  rw [isV_made ds b x hv, h]; simp

end Go.Proofs.YtiebdhbioccogaaGreatDoor

