import Derived.Test.YtbkfagncoekbkaaFlagM
namespace Go.Proofs.Ytbkfagncoekbkaa
open Go.RowKit Go.Maps
set_option linter.unusedVariables false
set_option maxRecDepth 100000

/-! ### plain facts on the algebra of flags: what the functions of chapter 4 compute -/
theorem mIsV_flag {ds : List D} {b n : Int} (h : mIsV ds b n = true) : vFlag ds b = true := by
  unfold mIsV at h; simp only [Bool.and_eq_true] at h; exact h.1.1
theorem mIsV_rng {ds : List D} {b n : Int} (h : mIsV ds b n = true) : 0 ≤ n ∧ n ≤ 4095 := by
  unfold mIsV at h; simp only [Bool.and_eq_true, decide_eq_true_eq] at h; exact h.1.2
theorem mIsV_nat {ds : List D} {b n : Int} (h : mIsV ds b n = true) : ∃ k : Nat, n = k ∧ k < 4096 := by
  have := mIsV_rng h
  exact ⟨n.toNat, by omega, by omega⟩
theorem mIsV_part {ds : List D} {b : Int} {k : Nat} (h : mIsV ds b k = true) (h3 : b ≠ 3) : nl k (mMask ds) = 0 := by
  unfold mIsV at h; simp only [Bool.and_eq_true, Bool.or_eq_true, decide_eq_true_eq, Int.toNat_natCast] at h
  rcases h.2 with h | h
  · exact absurd h h3
  · exact h
theorem mIsV_of {ds : List D} {b : Int} {k : Nat} (hv : vFlag ds b = true) (hk : k < 4096) (h : b = 3 ∨ nl k (mMask ds) = 0) : mIsV ds b k = true := by
  unfold mIsV
  simp only [Bool.and_eq_true, Bool.or_eq_true, decide_eq_true_eq, Int.toNat_natCast]
  exact ⟨⟨hv, by omega, by omega⟩, h⟩
def mTwo (ds : List D) (b x y : Int) : Bool := mIsV ds b x && mIsV ds b y
theorem mTwo_1 {ds : List D} {b x y : Int} (h : mTwo ds b x y = true) : mIsV ds b x = true := by unfold mTwo at h; simp only [Bool.and_eq_true] at h; exact h.1
theorem mTwo_2 {ds : List D} {b x y : Int} (h : mTwo ds b x y = true) : mIsV ds b y = true := by unfold mTwo at h; simp only [Bool.and_eq_true] at h; exact h.2
/-- What an operation makes of two values. -/
def mOp (op : Nat → Nat → Nat) (ds : List D) (b x y : Int) : Int := if mTwo ds b x y then ((op x.toNat y.toNat : Nat) : Int) else -1
def orN (a b : Nat) : Nat := a ||| b
def andN (a b : Nat) : Nat := a &&& b
def xorN (a b : Nat) : Nat := a ^^^ b
theorem xor_sub (a b : Nat) : (a ^^^ b) + 2 * (a &&& b) = a + b := by
  have h1 := or_add_and a b
  have h2 := or_add_and (a ^^^ b) (a &&& b)
  have e1 : (a ^^^ b) ||| (a &&& b) = a ||| b := by
    apply Nat.eq_of_testBit_eq; intro i
    rw [Nat.testBit_or, Nat.testBit_xor, Nat.testBit_and, Nat.testBit_or]; cases a.testBit i <;> cases b.testBit i <;> rfl
  have e2 : (a ^^^ b) &&& (a &&& b) = 0 := by
    apply Nat.eq_of_testBit_eq; intro i
    rw [Nat.testBit_and, Nat.testBit_xor, Nat.testBit_and, Nat.zero_testBit]; cases a.testBit i <;> cases b.testBit i <;> rfl
  rw [e1, e2] at h2
  omega
theorem xor_lt {a b : Nat} (ha : a < 4096) (hb : b < 4096) : a ^^^ b < 4096 := Nat.xor_lt_two_pow (n := 12) ha hb
def mInv (ds : List D) (b x : Int) : Int := if mIsV ds b x then ((nl (mWhole ds b) x.toNat : Nat) : Int) else -1
def mHas (ds : List D) (b x y : Int) : Bool := mTwo ds b x y && decide (nl y.toNat x.toNat = 0)
/-- The definitions of a list all of whose bits are in a. -/
def fitIn (a : Nat) (d : D) : Bool := decide (nl d.val.toNat a = 0)
def mWithin (ds : List D) (a : Nat) : List D := ds.filter (fitIn a)
def mIn (ds : List D) (a : Nat) : List D := mWithin (mSg ds) a
def mNamesIn (ds : List D) (b x : Int) : List ByteArray := if mIsV ds b x then (mIn ds x.toNat).map (·.name) else []
def mRestIn (ds : List D) (b x : Int) : Int := if mIsV ds b x then ((nl x.toNat (mMask (mSg ds)) : Nat) : Int) else -1
def mCount (ds : List D) (b x : Int) : Int := if mIsV ds b x then ((popc x.toNat : Nat) : Int) else -1
def cmpN (x y : Nat) : Int := if x = y then 0 else if nl x y = 0 then -1 else if nl y x = 0 then 1 else 2
def mCmp (ds : List D) (b x y : Int) : Int := if mTwo ds b x y then cmpN x.toNat y.toNat else 3
def partN (a n : Nat) : Bool := decide (nl n a = 0)
def partsTo (a k : Nat) : List Int := ((List.range k).filter (partN a)).map Int.ofNat
def mPartsOk (ds : List D) (b x : Int) : Bool := mIsV ds b x && decide (popc x.toNat ≤ 6)
def mParts (ds : List D) (b x : Int) : List Int := if mPartsOk ds b x then partsTo x.toNat (x.toNat + 1) else []
theorem partsTo_succ (a k : Nat) : partsTo a (k + 1) = partsTo a k ++ if partN a k then [(k : Int)] else [] := by
  unfold partsTo
  rw [List.range_succ, List.filter_append, List.map_append]
  congr 1
  rw [List.filter_cons, List.filter_nil]
  cases partN a k <;> rfl
theorem partsTo_len (a k : Nat) : (partsTo a k).length ≤ k := by
  unfold partsTo
  rw [List.length_map]
  have := List.length_filter_le (partN a) (List.range k)
  rw [List.length_range] at this
  exact this
theorem partsTo_rng {a k : Nat} (hk : k ≤ 4096) : ∀ t ∈ partsTo a k, -9223372036854775808 ≤ t ∧ t ≤ 9223372036854775807 := by
  intro t ht
  unfold partsTo at ht
  obtain ⟨n, hn, rfl⟩ := List.mem_map.1 ht
  have := List.mem_range.1 (List.mem_filter.1 hn).1
  show -9223372036854775808 ≤ (n : Int) ∧ (n : Int) ≤ 9223372036854775807
  omega
def valN (ds : List D) (s : ByteArray) : Nat := ds[(fidx (isNm s) ds).toNat]?.elim 0 fun d => d.val.toNat
/-- The bits of the names of a list ahead of index k, all of which are names. -/
def fromTo (ds : List D) (ss : List ByteArray) : Nat := ss.foldl (fun m s => m ||| valN ds s) 0
def allN (ds : List D) (ss : List ByteArray) : Bool := ss.all fun s => decide (0 ≤ fidx (isNm s) ds)
def mFromOk (ds : List D) (b : Int) (ss : List ByteArray) : Bool := vFlag ds b && allN ds ss
def mFrom (ds : List D) (b : Int) (ss : List ByteArray) : Int := if mFromOk ds b ss then ((fromTo ds ss : Nat) : Int) else 0
theorem fromTo_snoc (ds : List D) (ss : List ByteArray) (k : Nat) (h : k < ss.length) : fromTo ds (ss.take (k + 1)) = fromTo ds (ss.take k) ||| valN ds ss[k] := by
  unfold fromTo
  rw [List.take_succ_eq_append_getElem h, List.foldl_append]; rfl
theorem valN_at {ds : List D} {s : ByteArray} {j : Nat} (hj : j < ds.length) (h : fidx (isNm s) ds = j) : valN ds s = ds[j].val.toNat := by
  unfold valN; rw [h, Int.toNat_natCast, List.getElem?_eq_getElem hj]; rfl
theorem valN_lt {ds : List D} (hin : ∀ d ∈ ds, inR d) (s : ByteArray) : valN ds s < 4096 := by
  unfold valN
  cases h : ds[(fidx (isNm s) ds).toNat]? with
  | none => exact (by decide : (0 : Nat) < 4096)
  | some d =>
    have := hin d (List.mem_of_getElem? h)
    unfold inR at this
    show d.val.toNat < 4096
    omega
theorem fromTo_lt {ds : List D} (hin : ∀ d ∈ ds, inR d) (ss : List ByteArray) : fromTo ds ss < 4096 := by
  have key : ∀ (ss : List ByteArray) (m : Nat), m < 4096 → ss.foldl (fun m s => m ||| valN ds s) m < 4096 := by
    intro ss
    induction ss with
    | nil => intro m h; exact h
    | cons s r ih => intro m h; exact ih _ (or_lt h (valN_lt hin s))
  exact key ss 0 (by decide)
theorem allN_false {ds : List D} {ss : List ByteArray} {k : Nat} (hk : k < ss.length) (h : fidx (isNm ss[k]) ds < 0) : allN ds ss = false := by
  unfold allN
  rw [List.all_eq_false]
  exact ⟨ss[k], List.getElem_mem hk, by simp; omega⟩
theorem allN_true {ds : List D} {ss : List ByteArray} (h : ∀ i (hi : i < ss.length), 0 ≤ fidx (isNm ss[i]) ds) : allN ds ss = true := by
  unfold allN
  rw [List.all_eq_true]
  intro s hs
  obtain ⟨i, hi, rfl⟩ := List.mem_iff_getElem.1 hs
  simp [h i hi]

/-! ### parts of single bits -/
theorem nl_pow {i a : Nat} : nl (2 ^ i) a = 0 ↔ a.testBit i = true := by
  rw [nl_zero]
  constructor
  · intro h; exact h i (by rw [pow_tb]; simp)
  · intro h j hj; rw [pow_tb] at hj; simp at hj; subst hj; exact h
theorem sg_pow {ds : List D} {d : D} (h : d ∈ mSg ds) : ∃ i, i < 12 ∧ d.val.toNat = 2 ^ i := by
  obtain ⟨_, i, hi, e⟩ := sgTo_in h
  exact ⟨i, hi, by rw [e, Int.toNat_natCast]⟩
theorem and_pow_pos {i a : Nat} : 0 < (2 ^ i &&& a) ↔ a.testBit i = true := by
  constructor
  · intro h
    cases ha : a.testBit i
    · have : 2 ^ i &&& a = 0 := by
        apply Nat.eq_of_testBit_eq; intro j
        rw [Nat.testBit_and, pow_tb, Nat.zero_testBit]
        by_cases hj : i = j
        · subst hj; rw [ha]; simp
        · rw [decide_eq_false hj]; rfl
      omega
    · rfl
  · intro h
    refine Nat.pos_of_ne_zero fun e => ?_
    have := congrArg (fun x => x.testBit i) e
    rw [Nat.testBit_and, pow_tb, h, Nat.zero_testBit] at this
    simp at this
/-- Names of one bit that a has: the model asks for a bit in common, the program for no bit beyond. -/
theorem sg_fit {ds : List D} {d : D} (h : d ∈ mSg ds) (a : Nat) : fitIn a d = decide (0 < d.val.toNat &&& a) := by
  obtain ⟨i, _, e⟩ := sg_pow h
  unfold fitIn
  rw [e, decide_eq_decide]
  exact nl_pow.trans and_pow_pos.symm
theorem mIn_mask (ds : List D) (a : Nat) : nl a (mMask (mIn ds a)) = nl a (mMask (mSg ds)) := by
  apply Nat.eq_of_testBit_eq; intro i
  rw [tb_nl, tb_nl, mMask_tb, mMask_tb]
  cases ha : a.testBit i
  · rw [Bool.false_and, Bool.false_and]
  · rw [Bool.true_and, Bool.true_and]
    refine congrArg (fun v : Bool => !v) ?_
    unfold mIn mWithin
    rw [Bool.eq_iff_iff, List.any_eq_true, List.any_eq_true]
    constructor
    · rintro ⟨d, hd, h⟩; exact ⟨d, (List.mem_filter.1 hd).1, h⟩
    · rintro ⟨d, hd, h⟩
      refine ⟨d, List.mem_filter.2 ⟨hd, ?_⟩, h⟩
      obtain ⟨j, _, e⟩ := sg_pow hd
      rw [e, pow_tb] at h
      simp at h; subst h
      unfold fitIn
      rw [e, decide_eq_true_eq, nl_pow]; exact ha
theorem mWithin_len (ds : List D) (a : Nat) : (mWithin ds a).length ≤ ds.length := List.length_filter_le _ _
theorem mWithin_mem {ds : List D} {a : Nat} {d : D} (h : d ∈ mWithin ds a) : d ∈ ds := (List.mem_filter.1 h).1
theorem mIn_len (ds : List D) (a : Nat) : (mIn ds a).length ≤ 12 := Nat.le_trans (mWithin_len _ _) (mSg_len ds)
def inTo (ds : List D) (a k : Nat) : List D := mWithin (ds.take k) a
theorem inTo_succ (ds : List D) (a k : Nat) (h : k < ds.length) : inTo ds a (k + 1) = inTo ds a k ++ if fitIn a ds[k] then [ds[k]] else [] := by
  unfold inTo mWithin
  rw [List.take_succ_eq_append_getElem h, List.filter_append, List.filter_cons, List.filter_nil]
theorem inTo_len (ds : List D) (a k : Nat) : (inTo ds a k).length ≤ k := by
  have := mWithin_len (ds.take k) a
  have h2 : (ds.take k).length ≤ k := by simp; omega
  unfold inTo; omega
theorem mNamesIn_len (ds : List D) (b x : Int) : (mNamesIn ds b x).length ≤ 12 := by
  unfold mNamesIn
  cases mIsV ds b x
  · exact Nat.zero_le _
  · show ((mIn ds x.toNat).map _).length ≤ 12
    rw [List.length_map]; exact mIn_len ds _
theorem mNamesIn_ok {ds : List D} {b x : Int} (h : ∀ d ∈ ds, d.ok) : ∀ s ∈ mNamesIn ds b x, s.size ≤ maxLen := by
  intro s hs
  unfold mNamesIn at hs
  cases hv : mIsV ds b x
  · rw [hv] at hs; cases hs
  · rw [hv] at hs
    obtain ⟨d, hd, rfl⟩ := List.mem_map.1 hs
    exact (mSg_ok h d (mWithin_mem hd)).1
theorem mParts_len (ds : List D) (b x : Int) : (mParts ds b x).length ≤ 4096 := by
  unfold mParts
  cases hv : mPartsOk ds b x
  · exact Nat.zero_le _
  · have : mIsV ds b x = true := by unfold mPartsOk at hv; simp only [Bool.and_eq_true] at hv; exact hv.1
    have := mIsV_rng this
    have h := partsTo_len x.toNat (x.toNat + 1)
    show (partsTo x.toNat (x.toNat + 1)).length ≤ 4096
    omega
theorem mParts_ok (ds : List D) (b x : Int) : ∀ t ∈ mParts ds b x, -9223372036854775808 ≤ t ∧ t ≤ 9223372036854775807 := by
  unfold mParts
  cases hv : mPartsOk ds b x
  · intro t ht; cases ht
  · have : mIsV ds b x = true := by unfold mPartsOk at hv; simp only [Bool.and_eq_true] at hv; exact hv.1
    have h := mIsV_rng this
    exact partsTo_rng (a := x.toNat) (k := x.toNat + 1) (by omega)
/-- A class in its cell, and a slice of texts, both as they were in w0. -/
structure FS (w0 w : World) (g : Nat) (A : Option Addr) (n c : Nat) (ds : List D) (b : Int) (As : Option Addr) (q cs : Nat) (ss : List ByteArray) : Prop where
  fb : FB w0 w g A n c ds b
  ss0 : SS w w0.heap.size As q cs ss
theorem FS.call {w0 w w' : World} {g : Nat} {A : Option Addr} {n c : Nat} {ds : List D} {b : Int} {As : Option Addr} {q cs : Nat} {ss : List ByteArray} (h : FS w0 w g A n c ds b As q cs ss) (hb : Below w.heap.size w w') : FS w0 w' g A n c ds b As q cs ss := ⟨h.fb.call hb, h.ss0.below' hb h.fb.bel.size⟩
theorem FS.drewN {w0 w : World} {g : Nat} {A : Option Addr} {n c : Nat} {ds : List D} {b : Int} {As : Option Addr} {q cs : Nat} {ss : List ByteArray} (h : FS w0 w g A n c ds b As q cs ss) (k : Nat) : FS w0 (w.drewN k) g A n c ds b As q cs ss := h.call (below_drewN (Below.refl _ _) k)
end Go.Proofs.Ytbkfagncoekbkaa
