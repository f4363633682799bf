import Derived.Laws.BitsAllLaws
import Derived.Laws.BitsLemmas
import Derived.Lib.BitFns
import Derived.Test.YtiebdhbioccogaaGreatDoorBaseA
import Derived.Test.YtiebdhbioccogaaGreatDoorBaseB
import Derived.Test.YtiebdhbioccogaaGreatDoorBaseC
/-
Plain facts on bits and on classes of flags: what the functions of chapter 3 compute. No program in sight.
-/
namespace Go.Proofs.YtiebdhbioccogaaGreatDoor
set_option linter.unusedVariables false
set_option maxRecDepth 100000

/-! ### bits of numbers -/
/-- The bits that a has, and b does not. -/
def nl (a b : Nat) : Nat := a ^^^ (a &&& b)
theorem tb_nl (a b i : Nat) : (nl a b).testBit i = (a.testBit i && !b.testBit i) := by
  unfold nl; rw [Nat.testBit_xor, Nat.testBit_and]; cases a.testBit i <;> cases b.testBit i <;> rfl
theorem bit_dm (x i : Nat) : x / 2 ^ i % 2 = if x.testBit i then 1 else 0 := by
  rw [Nat.testBit_eq_decide_div_mod_eq]
  by_cases h : x / 2 ^ i % 2 = 1
  · simp [h]
  · simp [h]; omega
theorem or_add_and (a b : Nat) : (a ||| b) + (a &&& b) = a + b := by
  have key : ∀ k, (a ||| b) % 2 ^ k + (a &&& b) % 2 ^ k = a % 2 ^ k + b % 2 ^ k := by
    intro k
    induction k with
    | zero => simp [Nat.mod_one]
    | succ k ih =>
      rw [Nat.mod_pow_succ, Nat.mod_pow_succ (x := a &&& b), Nat.mod_pow_succ (x := a), Nat.mod_pow_succ (x := b), bit_dm, bit_dm, bit_dm, bit_dm, Nat.testBit_or, Nat.testBit_and]
      cases a.testBit k <;> cases b.testBit k <;> simp <;> omega
  have hk := key (a + b)
  have h1 : a + b < 2 ^ (a + b) := Nat.lt_two_pow_self
  have h2 : a ||| b < 2 ^ (a + b) := Nat.or_lt_two_pow (by omega) (by omega)
  have h3 : a &&& b < 2 ^ (a + b) := Nat.and_lt_two_pow _ (by omega)
  rw [Nat.mod_eq_of_lt h2, Nat.mod_eq_of_lt h3, Nat.mod_eq_of_lt (show a < _ by omega), Nat.mod_eq_of_lt (show b < _ by omega)] at hk
  exact hk
theorem nl_add_and (a b : Nat) : nl a b + (a &&& b) = a := by
  have h := or_add_and (nl a b) (a &&& b)
  have h1 : nl a b ||| (a &&& b) = a := by
    apply Nat.eq_of_testBit_eq; intro i
    rw [Nat.testBit_or, tb_nl, Nat.testBit_and]; cases a.testBit i <;> cases b.testBit i <;> rfl
  have h2 : nl a b &&& (a &&& b) = 0 := by
    apply Nat.eq_of_testBit_eq; intro i
    rw [Nat.testBit_and, tb_nl, Nat.testBit_and, Nat.zero_testBit]; cases a.testBit i <;> cases b.testBit i <;> rfl
  rw [h1, h2] at h; omega
theorem and_le (a b : Nat) : a &&& b ≤ a := by have := nl_add_and a b; omega
theorem nl_le (a b : Nat) : nl a b ≤ a := by have := nl_add_and a b; omega
theorem nl_eq (a b : Nat) : nl a b = a - (a &&& b) := by have := nl_add_and a b; omega
theorem or_lt {a b : Nat} (ha : a < 4096) (hb : b < 4096) : a ||| b < 4096 := Nat.or_lt_two_pow (n := 12) ha hb
theorem nl_lt {a b : Nat} (ha : a < 4096) : nl a b < 4096 := by have := nl_le a b; omega
theorem and_lt {a b : Nat} (ha : a < 4096) : a &&& b < 4096 := by have := and_le a b; omega
theorem tb_lt {a i : Nat} (ha : a < 4096) (hi : 12 ≤ i) : a.testBit i = false := Nat.testBit_lt_two_pow (Nat.lt_of_lt_of_le ha (show 2 ^ 12 ≤ 2 ^ i from Nat.pow_le_pow_right (by decide) hi))
/-- Part of: all bits of a are bits of b. -/
theorem nl_zero {a b : Nat} : nl a b = 0 ↔ ∀ i, a.testBit i = true → b.testBit i = true := by
  constructor
  · intro h i hi
    have := tb_nl a b i
    rw [h, Nat.zero_testBit, hi] at this
    simpa using this
  · intro h
    apply Nat.eq_of_testBit_eq; intro i
    rw [tb_nl, Nat.zero_testBit]
    cases ha : a.testBit i
    · rfl
    · rw [h i ha]; rfl
theorem pow_tb (j i : Nat) : (2 ^ j).testBit i = decide (j = i) := Nat.testBit_two_pow

/-! ### both, bit by bit -/
theorem both_succ (a b k : Nat) : (a &&& b) % 2 ^ (k + 1) = (a &&& b) % 2 ^ k + if a / 2 ^ k % 2 = 1 ∧ b / 2 ^ k % 2 = 1 then 2 ^ k else 0 := by
  rw [Nat.mod_pow_succ, bit_dm, bit_dm, bit_dm, Nat.testBit_and]
  cases a.testBit k <;> cases b.testBit k <;> simp

/-! ### int64's operators at numbers of at least 0 -/
theorem ofInt_i64 (a : Nat) (ha : a < 9223372036854775808) : (BitVec.ofInt 64 (a : Int)).toNat = a := by
  rw [BitVec.ofInt_natCast, BitVec.toNat_ofNat]; exact Nat.mod_eq_of_lt (by omega)
theorem i64_or_nat (a b : Nat) (ha : a < 9223372036854775808) (hb : b < 9223372036854775808) : bits .or .i64 (a : Int) (b : Int) = ((a ||| b : Nat) : Int) := by
  have hx : a ||| b < 2 ^ 63 := Nat.or_lt_two_pow (by omega) (by omega)
  show IntKind.i64.wrap ((BitVec.ofInt 64 (a : Int) ||| BitVec.ofInt 64 (b : Int)).toNat : Int) = _
  rw [BitVec.toNat_or, ofInt_i64 a ha, ofInt_i64 b hb, IntKind.wrap_i64]
  omega
theorem i64_and_nat (a b : Nat) (ha : a < 9223372036854775808) (hb : b < 9223372036854775808) : bits .and .i64 (a : Int) (b : Int) = ((a &&& b : Nat) : Int) := by
  have hx : a &&& b < 2 ^ 63 := Nat.and_lt_two_pow _ (by omega)
  show IntKind.i64.wrap ((BitVec.ofInt 64 (a : Int) &&& BitVec.ofInt 64 (b : Int)).toNat : Int) = _
  rw [BitVec.toNat_and, ofInt_i64 a ha, ofInt_i64 b hb, IntKind.wrap_i64]
  omega
theorem i64_xor_nat (a b : Nat) (ha : a < 9223372036854775808) (hb : b < 9223372036854775808) : bits .xor .i64 (a : Int) (b : Int) = ((a ^^^ b : Nat) : Int) := by
  have hx : a ^^^ b < 2 ^ 63 := Nat.xor_lt_two_pow (by omega) (by omega)
  show IntKind.i64.wrap ((BitVec.ofInt 64 (a : Int) ^^^ BitVec.ofInt 64 (b : Int)).toNat : Int) = _
  rw [BitVec.toNat_xor, ofInt_i64 a ha, ofInt_i64 b hb, IntKind.wrap_i64]
  omega
theorem i64_andNot_nat (a b : Nat) (ha : a < 9223372036854775808) (hb : b < 9223372036854775808) : bits .andNot .i64 (a : Int) (b : Int) = ((nl a b : Nat) : Int) := by
  have e : (BitVec.ofInt 64 (a : Int) &&& ~~~BitVec.ofInt 64 (b : Int)).toNat = nl a b := by
    rw [BitVec.toNat_and, BitVec.toNat_not, ofInt_i64 a ha, ofInt_i64 b hb]
    apply Nat.eq_of_testBit_eq; intro i
    have h1 : 2 ^ 64 - 1 - b = 2 ^ 64 - (b + 1) := by omega
    rw [Nat.testBit_and, tb_nl, h1, Nat.testBit_two_pow_sub_succ (by omega)]
    by_cases hi : i < 64
    · simp [hi]
    · rw [Nat.testBit_lt_two_pow (show a < 2 ^ i from Nat.lt_of_lt_of_le (show a < 2 ^ 64 by omega) (Nat.pow_le_pow_right (by decide) (by omega)))]; rfl
  have hx := nl_le a b
  show IntKind.i64.wrap ((BitVec.ofInt 64 (a : Int) &&& ~~~BitVec.ofInt 64 (b : Int)).toNat : Int) = _
  rw [e, IntKind.wrap_i64]
  omega

/-! ### how many bits; how long -/
def popc (n : Nat) : Nat := if h : n = 0 then 0 else n % 2 + popc (n / 2)
termination_by n
decreasing_by omega
theorem popc_zero : popc 0 = 0 := by unfold popc; rfl
theorem popc_pos {n : Nat} (h : 0 < n) : popc n = n % 2 + popc (n / 2) := by
  conv => lhs; unfold popc
  rw [dif_neg (by omega)]
theorem popc_le (n : Nat) : popc n ≤ n := by
  induction n using Nat.strongRecOn with
  | ind n ih =>
    by_cases h : n = 0
    · subst h; rw [popc_zero]; exact Nat.le_refl _
    · have := ih (n / 2) (by omega)
      rw [popc_pos (by omega)]; omega
/-- As many bits as a number needs. -/
def blen (n : Nat) : Nat := if n = 0 then 0 else n.log2 + 1
theorem blen_iff (n k : Nat) : n < 2 ^ k ↔ blen n ≤ k := by
  unfold blen
  by_cases h : n = 0
  · subst h; simp [Nat.two_pow_pos]
  · rw [if_neg h, ← Nat.log2_lt h]; omega
theorem blen_lt (n : Nat) : n < 2 ^ blen n := (blen_iff n _).2 (Nat.le_refl _)
theorem blen_or (a b : Nat) : blen (a ||| b) = max (blen a) (blen b) := by
  apply Nat.le_antisymm
  · rw [← blen_iff]
    exact Nat.or_lt_two_pow ((blen_iff _ _).2 (Nat.le_max_left _ _)) ((blen_iff _ _).2 (Nat.le_max_right _ _))
  · have h := blen_lt (a ||| b)
    have h1 : blen a ≤ blen (a ||| b) := by rw [← blen_iff]; exact Nat.lt_of_le_of_lt Nat.left_le_or h
    have h2 : blen b ≤ blen (a ||| b) := by rw [← blen_iff]; exact Nat.lt_of_le_of_lt Nat.right_le_or h
    exact Nat.max_le.2 ⟨h1, h2⟩
theorem bitLen_blen (n : Nat) (h : n < 2 ^ 64) : Lib.bitLen n = blen n := by
  induction n using Nat.strongRecOn with
  | ind n ih =>
    by_cases h0 : n = 0
    · subst h0; rfl
    · rw [Lib.bitLen_half n h0 h, ih (n / 2) (by omega) (by omega)]
      unfold blen
      rw [if_neg h0]
      by_cases h2 : n / 2 = 0
      · rw [if_pos h2]
        have : n = 1 := by omega
        subst this; rfl
      · rw [if_neg h2]
        have : n.log2 = (n / 2).log2 + 1 := by
          conv => lhs; rw [Nat.log2_def]
          rw [if_pos (by omega)]
        omega

/-! ### valid classes -/
def vFlag (ds : List D) (b : Int) : Bool := vDefs 0 4095 ds && (decide (0 ≤ b) && decide (b ≤ 3))
def inR (d : D) : Prop := 0 ≤ d.val ∧ d.val ≤ 4095
theorem vFlag_defs {ds : List D} {b : Int} (h : vFlag ds b = true) : vDefs 0 4095 ds = true := by unfold vFlag at h; simp at h; exact h.1
theorem vFlag_bound {ds : List D} {b : Int} (h : vFlag ds b = true) : 0 ≤ b ∧ b ≤ 3 := by unfold vFlag at h; simp at h; exact h.2
theorem vDefs_len {lo hi : Int} {ds : List D} (h : vDefs lo hi ds = true) : ds.length ≤ 12 := by unfold vDefs at h; simp at h; exact h.2
theorem vDefs_good {lo hi : Int} {ds : List D} (h : vDefs lo hi ds = true) : goodTo lo hi ds ds.length := by unfold vDefs at h; simp at h; exact h.1
theorem vDefs_val {lo hi : Int} {ds : List D} (h : vDefs lo hi ds = true) (d : D) (hd : d ∈ ds) : lo ≤ d.val ∧ d.val ≤ hi := by
  obtain ⟨i, hi, rfl⟩ := List.mem_iff_getElem.1 hd
  have := vDefs_good h i hi hi
  unfold goodAt at this; simp at this; omega
theorem vFlag_in {ds : List D} {b : Int} (h : vFlag ds b = true) : ∀ d ∈ ds, inR d := fun d hd => vDefs_val (vFlag_defs h) d hd
theorem vFlag_len {ds : List D} {b : Int} (h : vFlag ds b = true) : ds.length ≤ 12 := vDefs_len (vFlag_defs h)
/-- A definition with the value 0 in the place of its own. -/
def unv (d : D) : D := ⟨d.name, 0⟩
theorem unv_idx (ds : List D) (s : ByteArray) (k : Nat) : fidx (isNm s) ((ds.map unv).take k) = fidx (isNm s) (ds.take k) := by
  rw [← List.map_take]
  unfold fidx
  have : (fun x => isNm s (unv x)) = isNm s := rfl
  rw [List.findIdx?_map]
  rfl
theorem vDefs_unv {ds : List D} (h : ∀ d ∈ ds, inR d) : vDefs 0 4095 ds = vEnum (ds.map unv) := by
  unfold vEnum vDefs
  rw [List.length_map]
  congr 1
  rw [decide_eq_decide]
  have key : ∀ i (h : i < ds.length), goodAt (-1000) 1000 (ds.map unv) i (unv ds[i]) = (vName ds[i].name && decide (fidx (isNm ds[i].name) (ds.take i) < 0)) := by
    intro i hi
    show (vName ds[i].name && (decide ((-1000 : Int) ≤ 0) && decide ((0 : Int) ≤ 1000)) && decide (fidx (isNm ds[i].name) ((ds.map unv).take i) < 0)) = _
    rw [unv_idx]; simp
  have key2 : ∀ i (hi : i < ds.length), goodAt 0 4095 ds i ds[i] = (vName ds[i].name && decide (fidx (isNm ds[i].name) (ds.take i) < 0)) := by
    intro i hi
    have hr := h _ (List.getElem_mem hi)
    show (vName ds[i].name && (decide (0 ≤ ds[i].val) && decide (ds[i].val ≤ 4095)) && decide (fidx (isNm ds[i].name) (ds.take i) < 0)) = _
    rw [decide_eq_true hr.1, decide_eq_true hr.2]; simp
  constructor
  · intro hg i hi hik
    have hi' : i < ds.length := by simpa using hi
    rw [List.getElem_map, key i hi', ← key2 i hi']
    exact hg i hi' hi'
  · intro hg i hi hik
    have := hg i (by simpa using hi) (by simpa using hi)
    rw [List.getElem_map, key i hi, ← key2 i hi] at this
    exact this
theorem vDefs_out {ds : List D} {d : D} (hd : d ∈ ds) (h : ¬ inR d) : vDefs 0 4095 ds = false := by
  cases hv : vDefs 0 4095 ds
  · rfl
  · exact absurd (vDefs_val hv d hd) h

/-! ### masks -/
def mMask (ds : List D) : Nat := ds.foldl (fun m d => m ||| d.val.toNat) 0
theorem mMask_snoc (ds : List D) (k : Nat) (h : k < ds.length) : mMask (ds.take (k + 1)) = mMask (ds.take k) ||| ds[k].val.toNat := by
  unfold mMask
  rw [List.take_succ_eq_append_getElem h, List.foldl_append]; rfl
theorem mMask_app (ds es : List D) : mMask (ds ++ es) = mMask ds ||| mMask es := by
  have key : ∀ (es : List D) (m : Nat), es.foldl (fun m d => m ||| d.val.toNat) m = m ||| es.foldl (fun m d => m ||| d.val.toNat) 0 := by
    intro es
    induction es with
    | nil => intro m; simp
    | cons d r ih => intro m; rw [List.foldl_cons, List.foldl_cons, ih, ih (0 ||| d.val.toNat)]; simp [Nat.or_assoc]
  unfold mMask; rw [List.foldl_append, key]
theorem mMask_lt {b : Nat} {ds : List D} (h : ∀ d ∈ ds, 0 ≤ d.val ∧ d.val < 2 ^ b) : mMask ds < 2 ^ b := by
  have key : ∀ k, k ≤ ds.length → mMask (ds.take k) < 2 ^ b := by
    intro k
    induction k with
    | zero => intro _; exact Nat.two_pow_pos b
    | succ k ih =>
      intro hk
      have hv := h _ (List.getElem_mem (show k < ds.length by omega))
      rw [mMask_snoc ds k (by omega)]
      refine Nat.or_lt_two_pow (ih (by omega)) ?_
      have : ((ds[k].val.toNat : Nat) : Int) < ((2 ^ b : Nat) : Int) := by rw [Int.toNat_of_nonneg hv.1]; exact_mod_cast hv.2
      exact_mod_cast this
  have := key ds.length (Nat.le_refl _)
  rwa [List.take_of_length_le (Nat.le_refl _)] at this
theorem mMask_lt12 {ds : List D} (h : ∀ d ∈ ds, inR d) : mMask ds < 4096 := mMask_lt (b := 12) fun d hd => by have := h d hd; unfold inR at this; omega
theorem mMask_tb (ds : List D) (i : Nat) : (mMask ds).testBit i = ds.any fun d => d.val.toNat.testBit i := by
  induction ds with
  | nil => simp [mMask]
  | cons d r ih =>
    have := mMask_app [d] r
    rw [List.singleton_append] at this
    rw [this, Nat.testBit_or, ih, List.any_cons]
    simp [mMask]
theorem mMask_nil : mMask [] = 0 := rfl
/-- The least power of 2 above all values. -/
def mNb (ds : List D) : Nat := 2 ^ blen (mMask ds)
def mHigh (ds : List D) : Nat := mNb ds - 1
theorem mNb_pos (ds : List D) : 1 ≤ mNb ds := Nat.two_pow_pos _
theorem mNb_le {b : Nat} {ds : List D} (h : mMask ds < 2 ^ b) : mNb ds ≤ 2 ^ b := Nat.pow_le_pow_right (by decide) ((blen_iff _ _).1 h)
theorem mHigh_lt {ds : List D} (h : ∀ d ∈ ds, inR d) : mHigh ds < 4096 := by
  have := mNb_le (b := 12) (mMask_lt12 h)
  have := mNb_pos ds
  unfold mHigh; omega

/-! ### names of one bit -/
def sgAt (ds : List D) (i : Nat) : List D := match ds.find? (isVal ((2 ^ i : Nat) : Int)) with | some d => [d] | none => []
def sgTo (ds : List D) : Nat → List D
  | 0 => []
  | k + 1 => sgTo ds k ++ sgAt ds k
def mSg (ds : List D) : List D := sgTo ds 12
theorem find_idx {α : Type} {p : α → Bool} {l : List α} {k : Nat} (hk : k < l.length) (h : fidx p l = k) : l.find? p = some l[k] := by
  rcases fidx_cases p l with ⟨h1, _⟩ | ⟨j, hj, h1, hp, hn⟩
  · omega
  · obtain rfl : j = k := by omega
    rw [List.find?_eq_some_iff_getElem]
    exact ⟨hp, j, hk, rfl, fun i hi => by rw [hn i (by omega) hi]; rfl⟩
theorem find_no {α : Type} {p : α → Bool} {l : List α} (h : fidx p l < 0) : l.find? p = none := by
  rcases fidx_cases p l with ⟨_, hn⟩ | ⟨k, hk, h1, _⟩
  · rw [List.find?_eq_none]
    intro x hx
    obtain ⟨i, hi, rfl⟩ := List.mem_iff_getElem.1 hx
    simp [hn i hi hi]
  · omega
theorem sgAt_yes {ds : List D} {i k : Nat} (hk : k < ds.length) (h : fidx (isVal ((2 ^ i : Nat) : Int)) ds = k) : sgAt ds i = [ds[k]] := by
  unfold sgAt; rw [find_idx hk h]
theorem sgAt_no {ds : List D} {i : Nat} (h : fidx (isVal ((2 ^ i : Nat) : Int)) ds < 0) : sgAt ds i = [] := by
  unfold sgAt; rw [find_no h]
theorem sgAt_len (ds : List D) (i : Nat) : (sgAt ds i).length ≤ 1 := by unfold sgAt; split <;> simp
theorem sgTo_len (ds : List D) (k : Nat) : (sgTo ds k).length ≤ k := by
  induction k with
  | zero => exact Nat.le_refl _
  | succ k ih => have := sgAt_len ds k; unfold sgTo; rw [List.length_append]; omega
theorem sgAt_in {ds : List D} {i : Nat} {d : D} (h : d ∈ sgAt ds i) : d ∈ ds ∧ d.val = ((2 ^ i : Nat) : Int) := by
  unfold sgAt at h
  split at h
  · rename_i x e
    simp at h; subst h
    exact ⟨List.mem_of_find?_eq_some e, by have := List.find?_some e; unfold isVal at this; simpa using this⟩
  · cases h
theorem sgTo_in {ds : List D} {k : Nat} {d : D} (h : d ∈ sgTo ds k) : d ∈ ds ∧ ∃ i, i < k ∧ d.val = ((2 ^ i : Nat) : Int) := by
  induction k with
  | zero => cases h
  | succ k ih =>
    unfold sgTo at h
    rcases List.mem_append.1 h with h | h
    · obtain ⟨h1, i, h2, h3⟩ := ih h; exact ⟨h1, i, by omega, h3⟩
    · obtain ⟨h1, h2⟩ := sgAt_in h; exact ⟨h1, k, by omega, h2⟩
def mLoose (ds : List D) : Nat := nl (mMask ds) (mMask (mSg ds))
def isComp (d : D) : Bool := decide (1 < popc d.val.toNat)
def mComp (ds : List D) : List D := ds.filter isComp

/-! ### values -/
def mMade (ds : List D) (b n : Int) : Int × Int :=
  if n < 0 then (((if b = 3 then nl (mHigh ds) (-n - 1).toNat else nl (mMask ds) (-n - 1).toNat) : Nat), 0)
  else if nl n.toNat (mMask ds) = 0 then (n, 0)
  else if b = 0 then (0, 2) else if b = 1 then (((n.toNat &&& mMask ds : Nat) : Int), 0) else if b = 2 then (n, 1) else (n, 0)
def inV (n : Int) : Bool := decide (-4096 ≤ n) && decide (n ≤ 4095)
def mValue (ds : List D) (b n : Int) : Int × Int := if vFlag ds b && inV n then mMade ds b n else (0, 2)
def mIsV (ds : List D) (b n : Int) : Bool := vFlag ds b && (decide (0 ≤ n) && decide (n ≤ 4095)) && (decide (b = 3) || decide (nl n.toNat (mMask ds) = 0))
end Go.Proofs.YtiebdhbioccogaaGreatDoor

namespace Go.Proofs.YtiebdhbioccogaaGreatDoor
open Go.RowKit Go.Maps
set_option linter.unusedVariables false
set_option maxRecDepth 100000

/-! ### the model's functions on bits -/
set_option maxHeartbeats 1000000 in
theorem both_any (a b : Nat) (w : World) (ha : a < 4096) (hb : b < 4096) :
    Calls Tryz.prog 38 #[.int .i64 a, .int .i64 b] w fun e w' => e = .returned (.int .i64 ((a &&& b : Nat) : Int)) ∧ w = w' := by
  go_enter Tryz.func38, Tryz.ntmps38
  go_wp2
  go_loop [5, 6] (fun s i => ∃ (k p q : Nat), k ≤ 12 ∧ 1 ≤ p ∧ p ≤ 4096 ∧ q ≤ 4096 ∧ i = .int .i64 p ∧ s = .int .i64 q ∧ Hid (p = 2 ^ k) ∧ Hid (q = (a &&& b) % 2 ^ k)) (fun _ i => 4096 - (intOf i).toNat)
  case atStart => exact ⟨0, 1, 0, by omega, by omega, by omega, by omega, rfl, rfl, Lib.hid rfl, Lib.hid (by simp [Nat.mod_one])⟩
  case round =>
    obtain ⟨k, p, q, hk, hp1, hp2, hq1, rfl, rfl, hp, hq⟩ := hrel
    have hlt := and_lt (b := b) ha
    by_cases h12 : k < 12
    · have hp3 : p ≤ 2048 := by rw [hp.out]; exact Nat.pow_le_pow_right (n := 2) (by decide) (show k ≤ 11 by omega)
      have HS := Lib.hid (both_succ a b k)
      have HP2 : Hid (p * 2 = 2 ^ (k + 1)) := Lib.hid (by rw [hp.out, Nat.pow_succ])
      have hql : q + p ≤ 4096 := by
        have := Nat.mod_lt (a &&& b) (show 0 < 2 ^ k from Nat.two_pow_pos k)
        rw [hq.out]; have := hp.out; omega
      obtain ⟨x, hx⟩ : ∃ x : Nat, a / p = x := ⟨_, rfl⟩
      obtain ⟨y, hy⟩ : ∃ y : Nat, b / p = y := ⟨_, rfl⟩
      have hxl : x ≤ 4095 := by have := Nat.div_le_self a p; omega
      have hyl : y ≤ 4095 := by have := Nat.div_le_self b p; omega
      have dx : (a : Int) / (p : Int) = (x : Int) := by rw [← hx]; push_cast; rfl
      have dy : (b : Int) / (p : Int) = (y : Int) := by rw [← hy]; push_cast; rfl
      rw [← hp.out, hx, hy] at HS
      have HS' := Lib.hid HS.out
      have HQ0 : Hid (q = (a &&& b) % p) := Lib.hid (by rw [hp.out]; exact hq.out)
      clear hx hy HS
      by_cases ha1 : x % 2 = 1
      · have e1 : ((x : Int) % 2 == 1) = true := by rw [beq_iff_eq]; omega
        by_cases hb1 : y % 2 = 1
        · have e2 : ((y : Int) % 2 == 1) = true := by rw [beq_iff_eq]; omega
          have HQ : Hid (q + p = (a &&& b) % 2 ^ (k + 1)) := Lib.hid (by rw [HS'.out, if_pos ⟨ha1, hb1⟩, ← HQ0.out])
          clear ha1 hb1
          go_wp2
          go_round
          case rel => exact ⟨k + 1, p * 2, q + p, by omega, by omega, by omega, by omega, by go_num, by go_num, HP2, HQ⟩
          case measure => simp [intOf]; omega
        · have e2 : ((y : Int) % 2 == 1) = false := by rw [beq_eq_false_iff_ne]; omega
          have HQ : Hid (q = (a &&& b) % 2 ^ (k + 1)) := Lib.hid (by rw [HS'.out, if_neg (fun h => hb1 h.2), ← HQ0.out]; rfl)
          clear ha1 hb1
          go_wp2
          go_round
          case rel => exact ⟨k + 1, p * 2, q, by omega, by omega, by omega, by omega, by go_num, rfl, HP2, HQ⟩
          case measure => simp [intOf]; omega
      · have e1 : ((x : Int) % 2 == 1) = false := by rw [beq_eq_false_iff_ne]; omega
        have HQ : Hid (q = (a &&& b) % 2 ^ (k + 1)) := Lib.hid (by rw [HS'.out, if_neg (fun h => ha1 h.1), ← HQ0.out]; rfl)
        clear ha1
        go_wp2
        go_round
        case rel => exact ⟨k + 1, p * 2, q, by omega, by omega, by omega, by omega, by go_num, rfl, HP2, HQ⟩
        case measure => simp [intOf]; omega
    · obtain rfl : k = 12 := by omega
      have hp4 : p = 4096 := hp.out
      have hp5 : (4095 : Int) < (p : Int) := by omega
      have HQ : Hid (q = a &&& b) := Lib.hid (by rw [hq.out]; exact Nat.mod_eq_of_lt hlt)
      clear hp4
      go_wp2
      go_ret
      exact ⟨by rw [HQ.out]; first | done | rfl, rfl⟩

theorem both_v (a b : Nat) (w : World) (ha : a < 4096) (hb : b < 4096) {v : Nat} (hv : a &&& b = v) :
    Calls Tryz.prog 38 #[.int .i64 a, .int .i64 b] w fun e w' => e = .returned (.int .i64 v) ∧ w = w' := hv ▸ both_any a b w ha hb

set_option maxHeartbeats 400000 in
theorem less_any (a b : Nat) (w : World) (ha : a < 4096) (hb : b < 4096) {v : Nat} (hv : nl a b = v) :
    Calls Tryz.prog 39 #[.int .i64 a, .int .i64 b] w fun e w' => e = .returned (.int .i64 v) ∧ w = w' := by
  have h := nl_add_and a b
  have HV : Hid ((a : Int) - ((a &&& b : Nat) : Int) = (v : Int)) := Lib.hid (by omega)
  have hle := and_le a b
  generalize hx : a &&& b = x at *
  have HX := Lib.hid hx
  clear hx h hv
  go_enter Tryz.func39, Tryz.ntmps39
  go_wp2_with (go_at_call 38; refine (both_v a b _ ha hb HX.out).mono ?_; rintro e w' ⟨rfl, rfl⟩)
  go_ret
  exact ⟨by rw [HV.out]; first | done | rfl, rfl⟩

set_option maxHeartbeats 400000 in
theorem either_any (a b : Nat) (w : World) (ha : a < 4096) (hb : b < 4096) {v : Nat} (hv : a ||| b = v) :
    Calls Tryz.prog 37 #[.int .i64 a, .int .i64 b] w fun e w' => e = .returned (.int .i64 v) ∧ w = w' := by
  have h := or_add_and a b
  have HV : Hid ((a : Int) + (b : Int) - ((a &&& b : Nat) : Int) = (v : Int)) := Lib.hid (by omega)
  have hle := and_le a b
  generalize hx : a &&& b = x at *
  have HX := Lib.hid hx
  clear hx h hv
  go_enter Tryz.func37, Tryz.ntmps37
  go_wp2_with (go_at_call 38; refine (both_v a b _ ha hb HX.out).mono ?_; rintro e w' ⟨rfl, rfl⟩)
  go_ret
  exact ⟨by rw [HV.out]; first | done | rfl, rfl⟩

set_option maxHeartbeats 400000 in
theorem mask_any (ds : List D) (A : Option Addr) (n c : Nat) (w : World) (hr : SD w w.heap.size A n c ds) (hin : ∀ d ∈ ds, inR d) {v : Nat} (hv : mMask ds = v) :
    Calls Tryz.prog 73 #[.slice A n c] w fun e w' => e = .returned (.int .i64 v) ∧ w = w' := by
  subst hv
  obtain rfl := hr.len
  have hl := hr.max
  have hl2 := hr.cap
  unfold maxLen at hl
  have HR := Lib.hid hr
  have HIN := Lib.hid hin
  clear hr hin
  go_enter Tryz.func73, Tryz.ntmps73
  go_wp2
  go_loop [3, 4] (fun s i => ∃ (k q : Nat), k ≤ ds.length ∧ q < 4096 ∧ i = .int .i64 k ∧ s = .int .i64 q ∧ Hid (q = mMask (ds.take k))) (fun _ i => ds.length - (intOf i).toNat)
  case atStart => exact ⟨0, 0, Nat.zero_le _, by omega, rfl, rfl, Lib.hid rfl⟩
  case round =>
    obtain ⟨k, q, hk, hq, rfl, rfl, hmq⟩ := hrel
    by_cases hlt : k < ds.length
    · obtain ⟨b, o, rfl, hbb, c1, c2⟩ := HR.out.at_ hlt
      have HI := Lib.hid (HIN.out _ (List.getElem_mem hlt))
      obtain ⟨x, hx⟩ : ∃ x : Nat, ds[k].val = x := ⟨ds[k].val.toNat, (Int.toNat_of_nonneg HI.out.1).symm⟩
      have hx4 : x < 4096 := by have := HI.out.2; omega
      have HM : Hid (q ||| x = mMask (ds.take (k + 1))) := Lib.hid (by rw [mMask_snoc ds k hlt, hmq.out, hx]; rfl)
      have HO := Lib.hid (or_lt hq hx4)
      rw [hx] at c2
      clear hx
      have hi1 : (k : Int) < (ds.length : Int) := by omega
      go_wp2_with (go_at_call 37; refine (either_any q x _ hq hx4 rfl).mono ?_; rintro e w' ⟨rfl, rfl⟩)
      generalize q ||| x = z at *
      go_round
      case rel => exact ⟨k + 1, z, by omega, HO.out, by go_num, rfl, HM⟩
      case measure => simp [intOf]; omega
    · obtain rfl : k = ds.length := by omega
      have HM : Hid (q = mMask ds) := Lib.hid (by rw [hmq.out, List.take_of_length_le (Nat.le_refl _)])
      go_wp2
      go_ret
      exact ⟨by rw [HM.out]; first | done | rfl, rfl⟩
end Go.Proofs.YtiebdhbioccogaaGreatDoor

namespace Go.Proofs.YtiebdhbioccogaaGreatDoor
open Go.RowKit Go.Maps
set_option linter.unusedVariables false
set_option maxRecDepth 100000

/-! ### a class of flags in a cell of its own -/
/-- In w, which has grown from w0: the class ds, b (its slice A, n, c) lies in block g, and reads. -/
structure FB (w0 w : World) (g : Nat) (A : Option Addr) (n c : Nat) (ds : List D) (b : Int) : Prop where
  c0 : w.cell? ⟨g, 0, none⟩ = some (.slice A n c)
  c1 : w.cell? ⟨g, 1, none⟩ = some (.int .i64 b)
  sd0 : SD w w0.heap.size A n c ds
  bel : Below w0.heap.size w0 w
  lo : w0.heap.size ≤ g
section
variable {w0 w w' : World} {A : Option Addr} {g n c : Nat} {ds : List D} {b : Int}
theorem FB.start (hr : SD w w.heap.size A n c ds) (b : Int) : FB w (w.alloc (.cells #[.slice A n c, .int .i64 b] 35)) w.heap.size A n c ds b :=
  have h0 : Below w.heap.size w (w.alloc (.cells #[.slice A n c, .int .i64 b] 35)) := (Below.refl _ _).alloc (Nat.le_refl _) _
  ⟨by simp [go_sem], by simp [go_sem], hr.below h0, h0, Nat.le_refl _⟩
theorem FB.sd (h : FB w0 w g A n c ds b) : SD w w.heap.size A n c ds := h.sd0.more h.bel.size
theorem FB.call (h : FB w0 w g A n c ds b) (hb : Below w.heap.size w w') : FB w0 w' g A n c ds b :=
  ⟨keep1 hb h.c0, keep1 hb h.c1, h.sd0.below' hb h.bel.size, h.bel.trans (hb.mono h.bel.size), h.lo⟩
theorem FB.drewN (h : FB w0 w g A n c ds b) (k : Nat) : FB w0 (w.drewN k) g A n c ds b := h.call (below_drewN (Below.refl _ _) k)
theorem FB.alloc (h : FB w0 w g A n c ds b) (o : Obj) : FB w0 (w.alloc o) g A n c ds b := h.call ((Below.refl _ _).alloc (Nat.le_refl _) o)
theorem FB.after (h : FB w0 w g A n c ds b) (hb : Below w.heap.size w w') : Below w0.heap.size w0 w' := h.bel.trans (hb.mono h.bel.size)
/-- .. where what is new lies behind block G. -/
theorem fbG {G : Nat} (h : FB w0 w g A n c ds b) (hb : Below G w w') (hg : g < G) (hG : w0.heap.size ≤ G) : FB w0 w' g A n c ds b :=
  ⟨(hb.cell (p := ⟨g, 0, none⟩) hg).trans h.c0, (hb.cell (p := ⟨g, 1, none⟩) hg).trans h.c1, h.sd0.below' hb hG, h.bel.trans (hb.mono hG), h.lo⟩
theorem FB.set (h : FB w0 w g A n c ds b) {p : Addr} (hp : w0.heap.size ≤ p.block) (hne : p.block ≠ g) (u : Value) : FB w0 (w.setCell p u) g A n c ds b :=
  ⟨(World.cell?_setCell_other w p _ u (fun e => by subst e; exact hne rfl)).trans h.c0, (World.cell?_setCell_other w p _ u (fun e => by subst e; exact hne rfl)).trans h.c1, h.sd0.keep fun r => Rd.setCell r hp u, h.bel.setCell hp u, h.lo⟩
end
theorem ret_two {a b a' b' : Value} (h : a = a') (h2 : b = b') : Ending.returned (.tuple #[a, b]) = .returned (.tuple #[a', b']) := by rw [h, h2]

/-- A class of flags in new memory, and whether there is one. -/
def FlagR (ms : List D) (rb : Int) (ok : Bool) (w : World) (e : Ending) (w' : World) : Prop :=
  ∃ A c, e = .returned (.tuple #[.agg #[.slice A ms.length c, .int .i64 rb], .bool ok]) ∧ w'.ownsRow w.heap.size 108 2 (.slice A ms.length c) ms.length (flat ms) ∧ Below w.heap.size w w'
theorem flagR_no {w w' : World} (hb : Below w.heap.size w w') : FlagR [] 0 false w (.returned (.tuple #[.agg #[.slice none 0 0, .int .i64 0], .bool false])) w' := ⟨none, 0, rfl, World.ownsRow_nil _ _ _ _, hb⟩

/-! ### the model's ValidFlag -/
theorem validDefs_v (ds : List D) (lo hi : Int) (A : Option Addr) (c n : Nat) (w : World) (hr : SD w w.heap.size A n c ds) {v : Bool} (hv : vDefs lo hi ds = v) :
    Calls Tryz.prog 106 #[.slice A n c, .int .i64 lo, .int .i64 hi] w fun e w' => e = .returned (.bool v) ∧ ∃ n, w' = w.drewN n := hv ▸ validDefs_any ds lo hi A c n w hr

set_option maxHeartbeats 1000000 in
theorem specVF_v (ds : List D) (b : Int) (A : Option Addr) (n c : Nat) (w : World) (hr : SD w w.heap.size A n c ds) {v : Bool} (hv : vFlag ds b = v) :
    Calls Tryz.prog 65 #[.agg #[.slice A n c, .int .i64 b]] w fun e w' => e = .returned (.bool v) ∧ Below w.heap.size w w' := by
  subst hv
  have HF := Lib.hid (FB.start hr b)
  clear hr
  have HV : Hid (vFlag ds b = (vDefs 0 4095 ds && (decide (0 ≤ b) && decide (b ≤ 3)))) := Lib.hid rfl
  cases h1 : vDefs 0 4095 ds
  · have H1 := Lib.hid h1
    clear h1
    go_enter Tryz.func65, Tryz.ntmps65
    go_wp2_with (go_at_call 106; refine (validDefs_v ds _ _ _ _ _ _ HF.out.sd H1.out).mono ?_; rintro e w' ⟨rfl, n1, rfl⟩)
    go_ret
    exact ⟨ret_bool (by rw [HV.out, H1.out]; rfl), (HF.out.drewN _).bel⟩
  · have H1 := Lib.hid h1
    clear h1
    generalize h2 : (decide (0 ≤ b) && decide (b ≤ 3)) = v2 at HV
    have H2 := Lib.hid h2
    clear h2
    go_enter Tryz.func65, Tryz.ntmps65
    go_wp2_with (first | (go_at_call 106; refine (validDefs_v ds _ _ _ _ _ _ HF.out.sd H1.out).mono ?_; rintro e w' ⟨rfl, n1, rfl⟩; have c1 := (HF.out.drewN n1).c1) | (go_at_call 30; refine (inRange_v _ _ _ _ H2.out).mono ?_; rintro e w' ⟨rfl, rfl⟩))
    go_ret
    exact ⟨ret_bool (by rw [HV.out, H1.out]; rfl), (HF.out.drewN _).bel⟩

/-! ### the least power of 2 above all values -/
theorem nb_step {L x j : Nat} (h1 : L ≤ j) (h2 : j ≤ max L (blen x)) (h3 : 2 ^ j ≤ x) : j + 1 ≤ max L (blen x) := by
  have : ¬ blen x ≤ j := by rw [← blen_iff]; omega
  omega
theorem nb_end {L x j : Nat} (h1 : L ≤ j) (h2 : j ≤ max L (blen x)) (h3 : x < 2 ^ j) : j = max L (blen x) := by
  have := (blen_iff _ _).1 h3
  omega
def Small40 (ds : List D) : Prop := ∀ d ∈ ds, 0 ≤ d.val ∧ d.val < 1099511627776

set_option maxHeartbeats 2000000 in
theorem nextBit_any (ds : List D) (A : Option Addr) (n c : Nat) (w : World) (hr : SD w w.heap.size A n c ds) (hin : Small40 ds) {v : Nat} (hv : mNb ds = v) :
    Calls Tryz.prog 64 #[.slice A n c] w fun e w' => e = .returned (.int .i64 v) ∧ w = w' := by
  subst hv
  obtain rfl := hr.len
  have hl := hr.max
  have hl2 := hr.cap
  unfold maxLen at hl
  have HR := Lib.hid hr
  have HIN := Lib.hid hin
  clear hr hin
  go_enter Tryz.func64, Tryz.ntmps64
  go_wp2
  go_loop [3, 4] (fun s i => ∃ (k p L : Nat), k ≤ ds.length ∧ L ≤ 40 ∧ p ≤ 1099511627776 ∧ i = .int .i64 k ∧ s = .int .i64 p ∧ Hid (p = 2 ^ L) ∧ Hid (L = blen (mMask (ds.take k)))) (fun _ i => ds.length - (intOf i).toNat)
  case atStart => exact ⟨0, 1, 0, Nat.zero_le _, by omega, by omega, rfl, rfl, Lib.hid rfl, Lib.hid rfl⟩
  case round =>
    obtain ⟨k, p, L, hk, hL, hp0, rfl, rfl, hp, hLm⟩ := hrel
    by_cases hlt : k < ds.length
    · obtain ⟨b, o, rfl, hbb, c1, c2⟩ := HR.out.at_ hlt
      have HI := Lib.hid (HIN.out _ (List.getElem_mem hlt))
      obtain ⟨x, hx⟩ : ∃ x : Nat, ds[k].val = x := ⟨ds[k].val.toNat, (Int.toNat_of_nonneg HI.out.1).symm⟩
      have hx4 : x < 1099511627776 := by have := HI.out.2; omega
      have hxl : blen x ≤ 40 := (blen_iff x 40).1 (by omega)
      have HM : Hid (max L (blen x) = blen (mMask (ds.take (k + 1)))) := Lib.hid (by rw [mMask_snoc ds k hlt, blen_or, hx, ← hLm.out]; rfl)
      rw [hx] at c2
      clear hx
      have hi1 : (k : Int) < (ds.length : Int) := by omega
      have hmx : max L (blen x) ≤ 40 := by omega
      generalize hmm : max L (blen x) = m at hmx HM
      have HMM := Lib.hid hmm
      clear hmm hxl
      go_wp2
      go_loop [3] (fun s => ∃ (j q : Nat), L ≤ j ∧ j ≤ m ∧ q ≤ 1099511627776 ∧ 1 ≤ q ∧ s = .int .i64 q ∧ Hid (q = 2 ^ j)) (fun s => 1099511627776 - (intOf s).toNat)
      case atStart => exact ⟨L, p, Nat.le_refl _, by have := HMM.out; omega, hp0, by rw [hp.out]; exact Nat.two_pow_pos _, rfl, hp⟩
      case round =>
        obtain ⟨j, q, hj, hjm, hq0, hq1, rfl, hq⟩ := hrel
        by_cases hle : q ≤ x
        · have HJ : Hid (j + 1 ≤ m) := Lib.hid (by have := nb_step (x := x) hj (by have := HMM.out; omega) (by rw [← hq.out]; exact hle); have := HMM.out; omega)
          have HQ2 : Hid (q * 2 = 2 ^ (j + 1)) := Lib.hid (by rw [Nat.pow_succ, hq.out])
          have hq2 : q * 2 ≤ 1099511627776 := by rw [HQ2.out]; exact Nat.pow_le_pow_right (n := 2) (by decide) (show j + 1 ≤ 40 by have := HJ.out; omega)
          go_wp2
          go_round
          case rel => exact ⟨j + 1, q * 2, by omega, HJ.out, hq2, by omega, by go_num, HQ2⟩
          case measure => simp [intOf]; omega
        · have HJ : Hid (j = m) := Lib.hid (by have := nb_end (x := x) hj (by have := HMM.out; omega) (by rw [← hq.out]; omega); have := HMM.out; omega)
          go_wp2
          go_round
          case rel => exact ⟨k + 1, q, m, by omega, hmx, hq0, by go_num, rfl, Lib.hid (by rw [hq.out, HJ.out]), HM⟩
          case measure => simp [intOf]; omega
    · obtain rfl : k = ds.length := by omega
      have HM : Hid (p = mNb ds) := Lib.hid (by unfold mNb; rw [hp.out, hLm.out, List.take_of_length_le (Nat.le_refl _)])
      go_wp2
      go_ret
      exact ⟨by rw [HM.out]; first | done | rfl, rfl⟩

theorem small40 {ds : List D} (h : ∀ d ∈ ds, inR d) : Small40 ds := fun d hd => by have := h d hd; unfold inR at this; omega
set_option maxHeartbeats 400000 in
theorem high_any (ds : List D) (A : Option Addr) (n c : Nat) (w : World) (hr : SD w w.heap.size A n c ds) (hin : ∀ d ∈ ds, inR d) {v : Nat} (hv : mHigh ds = v) :
    Calls Tryz.prog 75 #[.slice A n c] w fun e w' => e = .returned (.int .i64 v) ∧ w = w' := by
  have h1 := mNb_pos ds
  have h2 := mHigh_lt hin
  have h3 := small40 hin
  unfold mHigh at hv h2
  generalize hx : mNb ds = x at *
  have HX := Lib.hid hx
  have HR := Lib.hid hr
  have HIN := Lib.hid h3
  have HV : Hid ((x : Int) - 1 = (v : Int)) := Lib.hid (by omega)
  clear hx hr h3 hv hin
  go_enter Tryz.func75, Tryz.ntmps75
  go_wp2_with (go_at_call 64; refine (nextBit_any ds _ _ _ _ HR.out HIN.out HX.out).mono ?_; rintro e w' ⟨rfl, rfl⟩)
  go_ret
  exact ⟨by rw [HV.out]; first | done | rfl, rfl⟩

/-! ### definitions of one bit -/
set_option maxHeartbeats 1000000 in
theorem singles_any (ds : List D) (A : Option Addr) (n c : Nat) (w : World) (hr : SD w w.heap.size A n c ds) :
    Calls Tryz.prog 108 #[.slice A n c] w (DefsP (mSg ds) w) := by
  obtain rfl := hr.len
  have hl := hr.max
  have hl2 := hr.cap
  unfold maxLen at hl
  have HR := Lib.hid hr
  clear hr
  go_enter Tryz.func108, Tryz.ntmps108
  go_wp2
  have H0 : Hid (Below w.heap.size w (w.alloc (.cells #[] 108))) := Lib.hid ((Below.refl _ _).alloc (Nat.le_refl _) _)
  have H1 : Hid ((w.alloc (.cells #[] 108)).ownsRow w.heap.size 108 2 (.slice (some ⟨w.heap.size, 0, none⟩) 0 0) (sgTo ds 0).length (flat (sgTo ds 0))) := Lib.hid (World.ownsRow_made w #[] 0 (Nat.le_refl _) (by unfold maxLen; omega) rfl)
  go_loopw [3, 4] (fun v i wr => ∃ k p : Nat, k ≤ 12 ∧ 1 ≤ p ∧ p ≤ 4096 ∧ i = .int .i64 p ∧ Hid (p = 2 ^ k) ∧ Hid (wr.ownsRow w.heap.size 108 2 v (sgTo ds k).length (flat (sgTo ds k))) ∧ Hid (Below w.heap.size w wr)) (fun _ i _ => 4096 - (intOf i).toNat)
  case atStart => exact ⟨0, 1, by omega, by omega, by omega, rfl, Lib.hid rfl, H1, H0⟩
  case round =>
    clear H0 H1
    obtain ⟨k, p, hk, hp1, hp2, rfl, hp, hown, hbel⟩ := hrel
    by_cases h12 : k < 12
    · have hp3 : p ≤ 2048 := by rw [hp.out]; exact Nat.pow_le_pow_right (n := 2) (by decide) (show k ≤ 11 by omega)
      have HP2 : Hid (p * 2 = 2 ^ (k + 1)) := Lib.hid (by rw [hp.out, Nat.pow_succ])
      have HS := Lib.hid ((HR.out.below hbel.out).call hbel.out.size)
      have HL := Lib.hid (sgTo_len ds k)
      rcases fidx_cases (isVal (p : Int)) ds with ⟨hx, _⟩ | ⟨j, hj, hx, _, _⟩
      · have HX := Lib.hid hx
        have HT : Hid (sgTo ds (k + 1) = sgTo ds k) := Lib.hid (by show sgTo ds k ++ sgAt ds k = _; rw [sgAt_no (by rw [← hp.out]; omega), List.append_nil])
        clear hx
        go_wp2_with (go_at_call 136; refine (valueAt_v ds _ _ _ _ _ HS.out HX.out).mono ?_; rintro e w' ⟨rfl, rfl⟩)
        go_roundw
        case rel => exact ⟨k + 1, p * 2, by omega, by omega, by omega, by go_num, HP2, Lib.hid (by rw [HT.out]; exact hown.out), hbel⟩
        case measure => simp [intOf]; omega
      · obtain ⟨b, o, rfl, hbb, c1, c2⟩ := HS.out.at_ hj
        have HX := Lib.hid hx
        have HT : Hid (sgTo ds (k + 1) = sgTo ds k ++ [ds[j]]) := Lib.hid (by show sgTo ds k ++ sgAt ds k = _; rw [sgAt_yes hj (by rw [← hp.out]; exact hx)])
        clear hx
        have hi1 : (j : Int) < (ds.length : Int) := by omega
        go_wp2_with (first | (go_at_call 136; refine (valueAt_v ds _ _ _ _ _ HS.out HX.out).mono ?_; rintro e w' ⟨rfl, rfl⟩) | (at_builtin; refine wpList_app_D rfl _ _ rfl _ _ _ _ rfl hown.out _ _ _ _ rfl (by first | rfl | simp) (by have := HL.out; omega) hbel.out.size ?_; intro v' w1 ho1 hb1; have HO1 := Lib.hid ho1; have HB1 := Lib.hid hb1; clear ho1 hb1))
        go_roundw
        case rel => exact ⟨k + 1, p * 2, by omega, by omega, by omega, by go_num, HP2, Lib.hid (by rw [HT.out, List.length_append]; simpa [flat, encD] using HO1.out), Lib.hid (hbel.out.trans HB1.out)⟩
        case measure => simp [intOf]; omega
    · obtain rfl : k = 12 := by omega
      have hp4 : p = 4096 := hp.out
      have hp5 : (4095 : Int) < (p : Int) := by omega
      clear hp4
      go_wp2
      go_ret
      obtain ⟨A', c', hv⟩ := own_form hown.out
      subst hv
      exact ⟨A', c', rfl, hown.out, hbel.out⟩

theorem mSg_in {ds : List D} (h : ∀ d ∈ ds, inR d) : ∀ d ∈ mSg ds, inR d := fun d hd => h d (sgTo_in hd).1
theorem mSg_ok {ds : List D} (h : ∀ d ∈ ds, d.ok) : ∀ d ∈ mSg ds, d.ok := fun d hd => h d (sgTo_in hd).1
theorem mSg_len (ds : List D) : (mSg ds).length ≤ 12 := sgTo_len ds 12

end Go.Proofs.YtiebdhbioccogaaGreatDoor

namespace Go.Proofs.YtiebdhbioccogaaGreatDoor
open Go.RowKit Go.Maps
set_option linter.unusedVariables false
set_option maxRecDepth 100000

/-! ### the model's functions of chapter 3 -/
def mMaskOf (ds : List D) (b : Int) : Int := if vFlag ds b then (mMask ds : Int) else -1
def mLooseOf (ds : List D) (b : Int) : Int := if vFlag ds b then (mLoose ds : Int) else -1
def mHighOf (ds : List D) (b : Int) : Int := if vFlag ds b then (mHigh ds : Int) else -1
def mSgOf (ds : List D) (b : Int) : List ByteArray := if vFlag ds b then (mSg ds).map (·.name) else []
def mCompOf (ds : List D) (b : Int) : List ByteArray := if vFlag ds b then (mComp ds).map (·.name) else []
def compTo (ds : List D) (k : Nat) : List D := (ds.take k).filter isComp
theorem compTo_succ (ds : List D) (k : Nat) (h : k < ds.length) : compTo ds (k + 1) = compTo ds k ++ if isComp ds[k] then [ds[k]] else [] := by
  unfold compTo
  rw [List.take_succ_eq_append_getElem h, List.filter_append, List.filter_cons, List.filter_nil]
theorem compTo_len (ds : List D) (k : Nat) : (compTo ds k).length ≤ k := by
  have := List.length_filter_le isComp (ds.take k)
  have h2 : (ds.take k).length ≤ k := by simp; omega
  unfold compTo; omega
theorem if_no {α : Type} {v : Bool} {a b : α} (h : v = false) : (if v then a else b) = b := by rw [h]; rfl
theorem if_yes {α : Type} {v : Bool} {a b : α} (h : v = true) : (if v then a else b) = a := by rw [h]; rfl
/-! ### how values are made -/
set_option maxHeartbeats 2000000 in
theorem specMade_any (ds : List D) (b n : Int) (A : Option Addr) (m c : Nat) (w : World) (hr : SD w w.heap.size A m c ds) (hin : ∀ d ∈ ds, inR d) (hbb : 0 ≤ b ∧ b ≤ 3) (hn1 : -4096 ≤ n) (hn2 : n ≤ 4095) :
    Calls Tryz.prog 67 #[.agg #[.slice A m c, .int .i64 b], .int .i64 n] w fun e w' => e = .returned (.tuple #[.int .i64 (mMade ds b n).1, .int .i64 (mMade ds b n).2]) ∧ Below w.heap.size w w' := by
  have HF := Lib.hid (FB.start hr b)
  have HIN := Lib.hid hin
  have h1 := mMask_lt12 hin
  have h2 := mHigh_lt hin
  obtain ⟨hb0, hb3⟩ := hbb
  obtain ⟨md, hmd⟩ : ∃ md, mMade ds b n = md := ⟨_, rfl⟩
  rw [hmd]
  unfold mMade at hmd
  generalize hx : mMask ds = x at *
  generalize hy : mHigh ds = y at *
  have HMD := Lib.hid hmd.symm
  clear hmd
  have HX := Lib.hid hx
  have HY := Lib.hid hy
  clear hx hy hr hin
  by_cases hneg : n < 0
  · obtain ⟨k, hk⟩ : ∃ k : Nat, -n - 1 = k := ⟨(-n - 1).toNat, by omega⟩
    have hk4 : k < 4096 := by omega
    have hk' : 0 - n - 1 = (k : Int) := by omega
    by_cases h3 : b = 3
    · have HR : Hid (md = (((nl y k : Nat) : Int), 0)) := Lib.hid (by rw [HMD.out, if_pos hneg, if_pos h3, hk]; rfl)
      subst h3
      generalize hq : nl y k = q at *
      have HQ := Lib.hid hq
      clear hq HMD
      go_enter Tryz.func67, Tryz.ntmps67
      go_wp2_with (first | (go_at_call 75; refine (high_any ds _ _ _ _ HF.out.sd HIN.out HY.out).mono ?_; rintro e w' ⟨rfl, rfl⟩) | (go_at_call 39; refine (less_any y k _ h2 hk4 HQ.out).mono ?_; rintro e w' ⟨rfl, rfl⟩))
      go_ret2
      exact ⟨by rw [HR.out]; first | done | rfl, HF.out.bel⟩
    · have HR : Hid (md = (((nl x k : Nat) : Int), 0)) := Lib.hid (by rw [HMD.out, if_pos hneg, if_neg h3, hk]; rfl)
      generalize hq : nl x k = q at *
      have HQ := Lib.hid hq
      clear hq HMD
      go_enter Tryz.func67, Tryz.ntmps67
      go_wp2_with (first | (go_at_call 73; refine (mask_any ds _ _ _ _ HF.out.sd HIN.out HX.out).mono ?_; rintro e w' ⟨rfl, rfl⟩) | (go_at_call 39; refine (less_any x k _ h1 hk4 HQ.out).mono ?_; rintro e w' ⟨rfl, rfl⟩))
      go_ret2
      exact ⟨by rw [HR.out]; first | done | rfl, HF.out.bel⟩
  · obtain ⟨k, rfl⟩ : ∃ k : Nat, n = k := ⟨n.toNat, by omega⟩
    have hk4 : k < 4096 := by omega
    generalize hq : nl k x = q at *
    have HQ := Lib.hid hq
    by_cases hz : q = 0
    · have HR : Hid (md = ((k : Int), 0)) := Lib.hid (by rw [HMD.out, if_neg hneg, if_pos (by rw [Int.toNat_natCast, hq]; exact hz)])
      subst hz
      clear HMD hq
      go_enter Tryz.func67, Tryz.ntmps67
      go_wp2_with (first | (go_at_call 73; refine (mask_any ds _ _ _ _ HF.out.sd HIN.out HX.out).mono ?_; rintro e w' ⟨rfl, rfl⟩) | (go_at_call 39; refine (less_any k x _ hk4 h1 HQ.out).mono ?_; rintro e w' ⟨rfl, rfl⟩))
      go_ret2
      exact ⟨by rw [HR.out]; first | done | rfl, HF.out.bel⟩
    · have HR : Hid (md = if b = 0 then (0, 2) else if b = 1 then (((k &&& x : Nat) : Int), 0) else if b = 2 then ((k : Int), 1) else ((k : Int), 0)) := Lib.hid (by rw [HMD.out, if_neg hneg, if_neg (by rw [Int.toNat_natCast, hq]; exact hz), Int.toNat_natCast])
      clear HMD hq
      rcases (show b = 0 ∨ b = 1 ∨ b = 2 ∨ b = 3 by omega) with rfl | rfl | rfl | rfl
      · have HRR : Hid (md = (0, 2)) := Lib.hid (by rw [HR.out]; rfl)
        clear HR
        go_enter Tryz.func67, Tryz.ntmps67
        go_wp2_with (first | (go_at_call 73; refine (mask_any ds _ _ _ _ HF.out.sd HIN.out HX.out).mono ?_; rintro e w' ⟨rfl, rfl⟩) | (go_at_call 39; refine (less_any k x _ hk4 h1 HQ.out).mono ?_; rintro e w' ⟨rfl, rfl⟩))
        go_ret2
        exact ⟨by rw [HRR.out]; first | done | rfl, HF.out.bel⟩
      · have HRR : Hid (md = (((k &&& x : Nat) : Int), 0)) := Lib.hid (by rw [HR.out]; rfl)
        clear HR
        generalize hz2 : k &&& x = z at *
        have HZ2 := Lib.hid hz2
        clear hz2
        go_enter Tryz.func67, Tryz.ntmps67
        go_wp2_with (first | (go_at_call 73; refine (mask_any ds _ _ _ _ HF.out.sd HIN.out HX.out).mono ?_; rintro e w' ⟨rfl, rfl⟩) | (go_at_call 39; refine (less_any k x _ hk4 h1 HQ.out).mono ?_; rintro e w' ⟨rfl, rfl⟩) | (go_at_call 38; refine (both_v k x _ hk4 h1 HZ2.out).mono ?_; rintro e w' ⟨rfl, rfl⟩))
        go_ret2
        exact ⟨by rw [HRR.out]; first | done | rfl, HF.out.bel⟩
      · have HRR : Hid (md = ((k : Int), 1)) := Lib.hid (by rw [HR.out]; rfl)
        clear HR
        go_enter Tryz.func67, Tryz.ntmps67
        go_wp2_with (first | (go_at_call 73; refine (mask_any ds _ _ _ _ HF.out.sd HIN.out HX.out).mono ?_; rintro e w' ⟨rfl, rfl⟩) | (go_at_call 39; refine (less_any k x _ hk4 h1 HQ.out).mono ?_; rintro e w' ⟨rfl, rfl⟩))
        go_ret2
        exact ⟨by rw [HRR.out]; first | done | rfl, HF.out.bel⟩
      · have HRR : Hid (md = ((k : Int), 0)) := Lib.hid (by rw [HR.out]; rfl)
        clear HR
        go_enter Tryz.func67, Tryz.ntmps67
        go_wp2_with (first | (go_at_call 73; refine (mask_any ds _ _ _ _ HF.out.sd HIN.out HX.out).mono ?_; rintro e w' ⟨rfl, rfl⟩) | (go_at_call 39; refine (less_any k x _ hk4 h1 HQ.out).mono ?_; rintro e w' ⟨rfl, rfl⟩))
        go_ret2
        exact ⟨by rw [HRR.out]; first | done | rfl, HF.out.bel⟩
end Go.Proofs.YtiebdhbioccogaaGreatDoor

namespace Go.Proofs.YtiebdhbioccogaaGreatDoor
open Go.RowKit Go.Maps
set_option linter.unusedVariables false
set_option maxRecDepth 100000

/-! ### the model's MakeValue, IsValue, WithBound -/
theorem specMade_v (ds : List D) (b n : Int) (A : Option Addr) (m c : Nat) (w : World) (hr : SD w w.heap.size A m c ds) (hin : ∀ d ∈ ds, inR d) (hbb : 0 ≤ b ∧ b ≤ 3) (hn : inV n = true) {x y : Int} (hx : (mMade ds b n).1 = x) (hy : (mMade ds b n).2 = y) :
    Calls Tryz.prog 67 #[.agg #[.slice A m c, .int .i64 b], .int .i64 n] w fun e w' => e = .returned (.tuple #[.int .i64 x, .int .i64 y]) ∧ Below w.heap.size w w' := by
  subst hx hy
  unfold inV at hn
  simp at hn
  exact specMade_any ds b n A m c w hr hin hbb (by omega) (by omega)

set_option maxHeartbeats 1000000 in
theorem specIsV_v (ds : List D) (b n : Int) (A : Option Addr) (m c : Nat) (w : World) (hr : SD w w.heap.size A m c ds) {v : Bool} (hm : mIsV ds b n = v) :
    Calls Tryz.prog 69 #[.agg #[.slice A m c, .int .i64 b], .int .i64 n] w fun e w' => e = .returned (.bool v) ∧ Below w.heap.size w w' := by
  subst hm
  have HF := Lib.hid (FB.start hr b)
  clear hr
  cases hv : vFlag ds b
  · have HV := Lib.hid hv
    have HM : Hid (mIsV ds b n = false) := Lib.hid (by unfold mIsV; rw [hv]; rfl)
    clear hv
    go_enter Tryz.func69, Tryz.ntmps69
    go_wp2_with (go_at_call 65; refine (specVF_v ds b _ _ _ _ HF.out.sd HV.out).mono ?_; rintro e w' ⟨rfl, hb⟩)
    go_ret
    exact ⟨by rw [HM.out]; first | done | rfl, HF.out.after hb⟩
  · have HV := Lib.hid hv
    cases hn : (decide (0 ≤ n) && decide (n ≤ 4095))
    · have HM : Hid (mIsV ds b n = false) := Lib.hid (by unfold mIsV; rw [hv, hn]; rfl)
      have HN := Lib.hid hn
      clear hv hn
      go_enter Tryz.func69, Tryz.ntmps69
      go_wp2_with (first | (go_at_call 65; refine (specVF_v ds b _ _ _ _ HF.out.sd HV.out).mono ?_; rintro e w' ⟨rfl, hb⟩; have HB := Lib.hid hb; clear hb) | (go_at_call 30; refine (inRange_v _ _ _ _ HN.out).mono ?_; rintro e w' ⟨rfl, rfl⟩))
      go_ret
      exact ⟨by rw [HM.out]; first | done | rfl, HF.out.after HB.out⟩
    · have HN := Lib.hid hn
      have hn2 : 0 ≤ n ∧ n ≤ 4095 := by simpa using hn
      by_cases h3 : b = 3
      · have HM : Hid (mIsV ds b n = true) := Lib.hid (by unfold mIsV; rw [hv, hn, decide_eq_true h3]; rfl)
        clear hv hn hn2
        subst h3
        go_enter Tryz.func69, Tryz.ntmps69
        go_wp2_with (first | (go_at_call 65; refine (specVF_v ds 3 _ _ _ _ HF.out.sd HV.out).mono ?_; rintro e w' ⟨rfl, hb⟩; have HF1 := Lib.hid (HF.out.call hb); have c0 := HF1.out.c0; have c1 := HF1.out.c1; clear hb) | (go_at_call 30; refine (inRange_v _ _ _ _ HN.out).mono ?_; rintro e w' ⟨rfl, rfl⟩))
        go_ret
        exact ⟨by rw [HM.out]; first | done | rfl, HF1.out.bel⟩
      · obtain ⟨k, rfl⟩ : ∃ k : Nat, n = k := ⟨n.toNat, by omega⟩
        have hk4 : k < 4096 := by omega
        have HIN := Lib.hid (vFlag_in hv)
        have h1 := mMask_lt12 HIN.out
        have HM : Hid (mIsV ds b k = decide (nl k (mMask ds) = 0)) := Lib.hid (by unfold mIsV; rw [hv, hn, decide_eq_false h3, Int.toNat_natCast]; rfl)
        generalize hx : mMask ds = x at *
        generalize hq : nl k x = q at *
        have HX := Lib.hid hx
        have HQ := Lib.hid hq
        clear hv hn hn2 hx hq
        go_enter Tryz.func69, Tryz.ntmps69
        go_wp2_with (first | (go_at_call 65; refine (specVF_v ds b _ _ _ _ HF.out.sd HV.out).mono ?_; rintro e w' ⟨rfl, hb⟩; have HF1 := Lib.hid (HF.out.call hb); have c0 := HF1.out.c0; have c1 := HF1.out.c1; clear hb) | (go_at_call 30; refine (inRange_v _ _ _ _ HN.out).mono ?_; rintro e w' ⟨rfl, rfl⟩) | (go_at_call 73; refine (mask_any ds _ _ _ _ HF1.out.sd HIN.out HX.out).mono ?_; rintro e w' ⟨rfl, rfl⟩) | (go_at_call 39; refine (less_any k x _ hk4 h1 HQ.out).mono ?_; rintro e w' ⟨rfl, rfl⟩))
        go_ret
        exact ⟨by rw [HM.out]; exact ret_bool (by rw [Bool.eq_iff_iff]; simp [h3]), HF1.out.bel⟩

end Go.Proofs.YtiebdhbioccogaaGreatDoor

