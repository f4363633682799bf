import Derived.Test.YtiebdhbioccogaaGreatDoorLAlg
import Derived.Test.YtiebdhbioccogaaGreatDoorArms
namespace Go.Proofs.YtiebdhbioccogaaGreatDoor
open Go.RowKit Go.Maps
set_option linter.unusedVariables false
set_option maxRecDepth 100000

/-! ### plain facts on arms: what the functions of chapter 6 compute -/
def fitsN (m x y : Nat) : Bool := decide (nl x m = 0) && decide (nl y m = 0) && decide (x &&& y = 0)
/-- The arm has only bits of m, each in one place. -/
def fitsA (m : Nat) (a : Ar) : Bool := decide (0 ≤ a.all) && decide (0 ≤ a.non) && fitsN m a.all.toNat a.non.toNat
theorem part_le {a m : Nat} (h : nl a m = 0) : a ≤ m := by
  have h1 := nl_add_and a m
  have h2 := and_le m a
  rw [Nat.and_comm] at h2
  omega
theorem fitsA_nat {m : Nat} {a : Ar} (h : fitsA m a = true) (hm : m < 4096) : ∃ p q : Nat, a.all = p ∧ a.non = q ∧ p < 4096 ∧ q < 4096 ∧ nl p m = 0 ∧ nl q m = 0 ∧ p &&& q = 0 := by
  unfold fitsA fitsN at h
  simp only [Bool.and_eq_true, decide_eq_true_eq] at h
  obtain ⟨⟨h1, h2⟩, ⟨h3, h4⟩, h5⟩ := h
  have := part_le h3
  have := part_le h4
  exact ⟨a.all.toNat, a.non.toNat, by omega, by omega, by omega, by omega, h3, h4, h5⟩
def mArm (ds : List D) (b : Int) (a : Ar) : Bool := vFlag ds b && fitsA (mMask ds) a
theorem mArm_flag {ds : List D} {b : Int} {a : Ar} (h : mArm ds b a = true) : vFlag ds b = true := by unfold mArm at h; simp only [Bool.and_eq_true] at h; exact h.1
theorem mArm_fits {ds : List D} {b : Int} {a : Ar} (h : mArm ds b a = true) : fitsA (mMask ds) a = true := by unfold mArm at h; simp only [Bool.and_eq_true] at h; exact h.2
theorem mArm_nat {ds : List D} {b : Int} {a : Ar} (h : mArm ds b a = true) : ∃ p q : Nat, a.all = p ∧ a.non = q ∧ p < 4096 ∧ q < 4096 ∧ nl p (mMask ds) = 0 ∧ nl q (mMask ds) = 0 ∧ p &&& q = 0 :=
  fitsA_nat (mArm_fits h) (mMask_lt12 (vFlag_in (mArm_flag h)))

/-! ### int64's operators at any numbers -/
theorem ofInt_wrap (b : BitVec 64) : BitVec.ofInt 64 (IntKind.i64.wrap (b.toNat : Int)) = b := by
  apply BitVec.eq_of_toNat_eq
  rw [BitVec.toNat_ofInt, IntKind.wrap_i64]
  have := b.isLt
  omega
theorem wrap_zero (b : BitVec 64) : IntKind.i64.wrap (b.toNat : Int) = 0 ↔ b.toNat = 0 := by
  rw [IntKind.wrap_i64]
  have := b.isLt
  omega
theorem toNat_andNot (x : BitVec 64) (m : Nat) (hm : m < 4096) : (x &&& ~~~BitVec.ofInt 64 (m : Int)).toNat = nl x.toNat m := by
  rw [BitVec.toNat_and, BitVec.toNat_not, ofInt_i64 m (by omega)]
  apply Nat.eq_of_testBit_eq; intro i
  have h1 : 2 ^ 64 - 1 - m = 2 ^ 64 - (m + 1) := by omega
  rw [Nat.testBit_and, tb_nl, h1, Nat.testBit_two_pow_sub_succ (by omega)]
  by_cases hi : i < 64
  · simp [hi]
  · rw [Nat.testBit_lt_two_pow (show x.toNat < 2 ^ i from Nat.lt_of_lt_of_le x.isLt (Nat.pow_le_pow_right (by decide) (by omega)))]; rfl
theorem toNat_of_small {x : Int} (hx : I64 x) (h : (BitVec.ofInt 64 x).toNat < 4096) : 0 ≤ x ∧ (BitVec.ofInt 64 x).toNat = x.toNat := by
  unfold I64 at hx
  rw [BitVec.toNat_ofInt] at *
  omega
theorem toNat_of_pos {x : Int} (hx : I64 x) (h : 0 ≤ x) : (BitVec.ofInt 64 x).toNat = x.toNat := by
  unfold I64 at hx
  rw [BitVec.toNat_ofInt]
  omega
theorem part_or_iff {a c m : Nat} : nl (a ||| c) m = 0 ↔ nl a m = 0 ∧ nl c m = 0 := by
  constructor
  · intro h
    rw [nl_zero] at h
    exact ⟨nl_zero.2 fun i hi => h i (by rw [Nat.testBit_or, hi]; rfl), nl_zero.2 fun i hi => h i (by rw [Nat.testBit_or, hi]; simp)⟩
  · rintro ⟨h1, h2⟩; exact part_or h1 h2
/-- All bits of two numbers are bits of m, whatever numbers they are. -/
theorem wild_fits {x y : Int} (hx : I64 x) (hy : I64 y) {m : Nat} (hm : m < 4096) : bits .andNot .i64 (bits .or .i64 x y) (m : Int) = 0 ↔ (0 ≤ x ∧ 0 ≤ y) ∧ nl x.toNat m = 0 ∧ nl y.toNat m = 0 := by
  show IntKind.i64.wrap ((BitVec.ofInt 64 (IntKind.i64.wrap ((BitVec.ofInt 64 x ||| BitVec.ofInt 64 y).toNat : Int)) &&& ~~~BitVec.ofInt 64 (m : Int)).toNat : Int) = 0 ↔ _
  rw [ofInt_wrap, wrap_zero, toNat_andNot _ m hm, BitVec.toNat_or, part_or_iff]
  constructor
  · rintro ⟨h1, h2⟩
    have a1 := part_le h1
    have a2 := part_le h2
    obtain ⟨b1, c1⟩ := toNat_of_small hx (by omega)
    obtain ⟨b2, c2⟩ := toNat_of_small hy (by omega)
    rw [c1] at h1
    rw [c2] at h2
    exact ⟨⟨b1, b2⟩, h1, h2⟩
  · rintro ⟨⟨b1, b2⟩, h1, h2⟩
    rw [toNat_of_pos hx b1, toNat_of_pos hy b2]
    exact ⟨h1, h2⟩
theorem or_i64 (x y : Int) : I64 (bits .or .i64 x y) := by
  show I64 (IntKind.i64.wrap ((BitVec.ofInt 64 x ||| BitVec.ofInt 64 y).toNat : Int))
  unfold I64
  rw [IntKind.wrap_i64]
  omega
theorem andNot_i64 (x y : Int) : I64 (bits .andNot .i64 x y) := by
  show I64 (IntKind.i64.wrap ((BitVec.ofInt 64 x &&& ~~~BitVec.ofInt 64 y).toNat : Int))
  unfold I64
  rw [IntKind.wrap_i64]
  omega
theorem fitsA_wild {x y : Int} (hx : I64 x) (hy : I64 y) {m : Nat} (hm : m < 4096) (h : bits .andNot .i64 (bits .or .i64 x y) (m : Int) = 0) : (∃ p q : Nat, x = p ∧ y = q ∧ p < 4096 ∧ q < 4096) ∧ fitsA m ⟨x, y⟩ = decide (x.toNat &&& y.toNat = 0) := by
  obtain ⟨⟨b1, b2⟩, h1, h2⟩ := (wild_fits hx hy hm).1 h
  have a1 := part_le h1
  have a2 := part_le h2
  refine ⟨⟨x.toNat, y.toNat, by omega, by omega, by omega, by omega⟩, ?_⟩
  unfold fitsA fitsN
  rw [decide_eq_true b1, decide_eq_true b2, decide_eq_true h1, decide_eq_true h2]
  rfl
theorem fitsA_wild_no {x y : Int} (hx : I64 x) (hy : I64 y) {m : Nat} (hm : m < 4096) (h : bits .andNot .i64 (bits .or .i64 x y) (m : Int) ≠ 0) : fitsA m ⟨x, y⟩ = false := by
  cases hf : fitsA m ⟨x, y⟩
  · rfl
  · refine absurd ((wild_fits hx hy hm).2 ?_) h
    unfold fitsA fitsN at hf
    simp only [Bool.and_eq_true, decide_eq_true_eq] at hf
    exact ⟨hf.1, hf.2.1⟩

/-! ### what arms match -/
def matchN (p q n : Nat) : Bool := decide (nl p n = 0) && decide (n &&& q = 0)
def matchA (n : Nat) (a : Ar) : Bool := matchN a.all.toNat a.non.toNat n
def mMatch (ds : List D) (b : Int) (a : Ar) (x : Int) : Bool := mArm ds b a && mIsV ds b x && matchA x.toNat a
def mTwoArms (ds : List D) (b : Int) (a c : Ar) : Bool := mArm ds b a && mArm ds b c
def meetN (p q r s : Nat) : Bool := decide (p &&& s = 0) && decide (q &&& r = 0)
def mMeet (ds : List D) (b : Int) (a c : Ar) : Bool := mTwoArms ds b a c && meetN a.all.toNat a.non.toNat c.all.toNat c.non.toNat
def coverN (p q r s : Nat) : Bool := decide (nl p r = 0) && decide (nl q s = 0)
def mCover (ds : List D) (b : Int) (a c : Ar) : Bool := mTwoArms ds b a c && coverN a.all.toNat a.non.toNat c.all.toNat c.non.toNat
def mCountA (ds : List D) (b : Int) (a : Ar) : Int := if mArm ds b a then ((2 ^ popc (nl (mMask ds) (a.all.toNat ||| a.non.toNat)) : Nat) : Int) else -1
theorem popc_nl {m q : Nat} (h : nl q m = 0) : popc (nl m q) + popc q = popc m := by
  have h1 := popc_or_and (nl m q) q
  have e1 : nl m q ||| q = m := by
    rw [nl_zero] at h
    apply tb_ext; intro i
    rw [Nat.testBit_or, tb_nl]
    have := h i
    cases hq : q.testBit i
    · simp
    · rw [this hq]; rfl
  rw [e1, bl1, popc_zero] at h1
  omega
theorem popc_bits : ∀ (k n : Nat), n < 2 ^ k → popc n ≤ k := by
  intro k
  induction k with
  | zero =>
    intro n h
    have h0 : n = 0 := by rw [Nat.pow_zero] at h; omega
    simp [h0, popc_zero]
  | succ k ih =>
    intro n h
    by_cases h0 : n = 0
    · subst h0; rw [popc_zero]; omega
    · rw [popc_pos (by omega)]
      have := ih (n / 2) (by rw [Nat.pow_succ] at h; omega)
      omega
theorem popc_12 {n : Nat} (h : n < 4096) : popc n ≤ 12 := popc_bits 12 n h
/-- As many bits are free rs the mask has more than both parts of the arm. -/
theorem popc_free {m p q : Nat} (hp : nl p m = 0) (hq : nl q m = 0) (h : p &&& q = 0) : popc (nl m (p ||| q)) + popc p + popc q = popc m := by
  have h1 := popc_nl (part_or hp hq)
  have h2 := popc_or_and p q
  rw [h, popc_zero] at h2
  omega

/-! ### lists of arms -/
def mArms (ds : List D) (b : Int) (rs : List Ar) : Bool := vFlag ds b && rs.all (fitsA (mMask ds)) && decide (rs.length ≤ 10)
theorem mArms_flag {ds : List D} {b : Int} {rs : List Ar} (h : mArms ds b rs = true) : vFlag ds b = true := by unfold mArms at h; simp only [Bool.and_eq_true] at h; exact h.1.1
theorem mArms_len {ds : List D} {b : Int} {rs : List Ar} (h : mArms ds b rs = true) : rs.length ≤ 10 := by unfold mArms at h; simp only [Bool.and_eq_true, decide_eq_true_eq] at h; exact h.2
theorem mArms_fits {ds : List D} {b : Int} {rs : List Ar} (h : mArms ds b rs = true) : ∀ a ∈ rs, fitsA (mMask ds) a = true := by unfold mArms at h; simp only [Bool.and_eq_true, List.all_eq_true] at h; exact h.1.2
def firstA (rs : List Ar) (n : Nat) : Int := fidx (matchA n) rs
theorem firstA_lt (rs : List Ar) (n : Nat) : firstA rs n < rs.length := by
  unfold firstA
  rcases fidx_cases (matchA n) rs with ⟨h, _⟩ | ⟨k, hk, h, _⟩ <;> omega
theorem firstA_ge (rs : List Ar) (n : Nat) : -1 ≤ firstA rs n := by
  unfold firstA
  rcases fidx_cases (matchA n) rs with ⟨h, _⟩ | ⟨k, hk, h, _⟩ <;> omega
def mFirst (ds : List D) (b : Int) (rs : List Ar) (x : Int) : Int := if mArms ds b rs && mIsV ds b x then firstA rs x.toNat else -2
/-- The least part of m below k that no arm matches, -1 if there is none. -/
def missTo (rs : List Ar) (m k : Nat) : Int := match (List.range k).find? (fun n => partN m n && decide (firstA rs n < 0)) with
  | some n => (n : Int)
  | none => -1
def mMissed (ds : List D) (b : Int) (rs : List Ar) : Int := if mArms ds b rs then missTo rs (mMask ds) (mMask ds + 1) else -2
theorem missTo_zero (rs : List Ar) (m : Nat) : missTo rs m 0 = -1 := rfl
theorem missTo_succ (rs : List Ar) (m k : Nat) : missTo rs m (k + 1) = if missTo rs m k < 0 then (if partN m k && decide (firstA rs k < 0) then (k : Int) else -1) else missTo rs m k := by
  unfold missTo
  rw [List.range_succ, List.find?_append]
  cases h : (List.range k).find? (fun n => partN m n && decide (firstA rs n < 0)) with
  | none =>
    simp only [Option.none_or, List.find?_cons, List.find?_nil]
    cases partN m k && decide (firstA rs k < 0) <;> simp
  | some n =>
    simp only [Option.some_or]
    rw [if_neg (by omega)]
theorem missTo_ge (rs : List Ar) (m k : Nat) : -1 ≤ missTo rs m k := by unfold missTo; split <;> omega
theorem missTo_lt (rs : List Ar) (m k : Nat) : missTo rs m k < k ∨ missTo rs m k = -1 := by
  unfold missTo
  split
  · rename_i n h
    have := List.mem_of_find?_eq_some h
    rw [List.mem_range] at this
    left; omega
  · right; rfl
/-- Arm j comes first for a part of m below k. -/
def metBy (rs : List Ar) (m k j : Nat) : Bool := (List.range k).any fun n => partN m n && decide (firstA rs n = (j : Int))
theorem metBy_succ (rs : List Ar) (m k j : Nat) : metBy rs m (k + 1) j = (metBy rs m k j || (partN m k && decide (firstA rs k = (j : Int)))) := by
  unfold metBy
  rw [List.range_succ, List.any_append, List.any_cons, List.any_nil, Bool.or_false]
def deadTo (rs : List Ar) (m k : Nat) : List Int := ((List.range k).filter fun j => !metBy rs m (m + 1) j).map Int.ofNat
theorem deadTo_succ (rs : List Ar) (m k : Nat) : deadTo rs m (k + 1) = deadTo rs m k ++ if metBy rs m (m + 1) k then [] else [(k : Int)] := by
  unfold deadTo
  rw [List.range_succ, List.filter_append, List.map_append]
  congr 1
  rw [List.filter_cons, List.filter_nil]
  cases metBy rs m (m + 1) k <;> rfl
theorem deadTo_len (rs : List Ar) (m k : Nat) : (deadTo rs m k).length ≤ k := by
  unfold deadTo
  rw [List.length_map]
  have := List.length_filter_le (fun j => !metBy rs m (m + 1) j) (List.range k)
  rw [List.length_range] at this
  exact this
theorem deadTo_rng {rs : List Ar} {m k : Nat} (hk : k ≤ 4096) : ∀ t ∈ deadTo rs m k, -9223372036854775808 ≤ t ∧ t ≤ 9223372036854775807 := by
  intro t ht
  unfold deadTo at ht
  obtain ⟨n, hn, rfl⟩ := List.mem_map.1 ht
  have := List.mem_range.1 (List.mem_filter.1 hn).1
  show -9223372036854775808 ≤ (n : Int) ∧ (n : Int) ≤ 9223372036854775807
  omega
def mDead (ds : List D) (b : Int) (rs : List Ar) : List Int := if mArms ds b rs then deadTo rs (mMask ds) rs.length else []
theorem mDead_len (ds : List D) (b : Int) (rs : List Ar) : (mDead ds b rs).length ≤ 10 := by
  unfold mDead
  cases h : mArms ds b rs
  · exact Nat.zero_le _
  · have := mArms_len h
    have := deadTo_len rs (mMask ds) rs.length
    show (deadTo rs (mMask ds) rs.length).length ≤ 10
    omega
theorem mDead_ok (ds : List D) (b : Int) (rs : List Ar) : ∀ t ∈ mDead ds b rs, -9223372036854775808 ≤ t ∧ t ≤ 9223372036854775807 := by
  unfold mDead
  cases h : mArms ds b rs
  · intro t ht; cases ht
  · have := mArms_len h
    exact deadTo_rng (by omega)
/-- Through the list of parts, one after the other. -/
theorem missTo_list (rs : List Ar) (m k : Nat) : missTo rs m k = ((partsTo m k).find? (fun n => decide (firstA rs n.toNat < 0))).getD (-1) := by
  unfold missTo partsTo
  rw [List.find?_map, List.find?_filter]
  have e : (fun n => partN m n && decide (firstA rs n < 0)) = (fun a => decide (partN m a = true ∧ ((fun n : Int => decide (firstA rs n.toNat < 0)) ∘ Int.ofNat) a = true)) := by
    funext n
    simp only [Function.comp, Int.ofNat_eq_natCast, Int.toNat_natCast]
    rw [Bool.eq_iff_iff]
    simp
  rw [e]
  cases (List.range k).find? _ <;> rfl
end Go.Proofs.YtiebdhbioccogaaGreatDoor
