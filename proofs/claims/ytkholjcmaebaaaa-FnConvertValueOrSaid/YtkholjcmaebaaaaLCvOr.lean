import Derived.Test.YtkholjcmaebaaaaLCv
import Derived.Test.YtkholjcmaebaaaaLKept
namespace Go.Proofs.Ytkholjcmaebaaaa
open Go.RowKit Go.Maps
set_option linter.unusedVariables false
set_option maxRecDepth 100000

/-! ### converting goes through either: plain facts -/
theorem fromTo_tb (ds : List D) (ss : List ByteArray) (i : Nat) : (fromTo ds ss).testBit i = ss.any fun s => (valN ds s).testBit i := by
  induction ss with
  | nil => simp [fromTo]
  | cons s r ih =>
    have h := fromTo_app ds [s] r
    rw [List.singleton_append] at h
    rw [h, Nat.testBit_or, ih, List.any_cons]
    simp [fromTo]
def cvZ (ds es : List D) (x : Nat) : Nat := fromTo es ((mIn ds x).map (·.name))
theorem cvZ_tb (ds es : List D) (x i : Nat) : (cvZ ds es x).testBit i = (mSg ds).any fun d => fitIn x d && (valN es d.name).testBit i := by
  unfold cvZ mIn mWithin
  rw [fromTo_tb, List.any_map, List.any_filter]
  rfl
theorem cvZ_or (ds es : List D) (x y : Nat) : cvZ ds es (x ||| y) = cvZ ds es x ||| cvZ ds es y := by
  apply tb_ext; intro i
  rw [Nat.testBit_or, cvZ_tb, cvZ_tb, cvZ_tb, Bool.eq_iff_iff]
  simp only [List.any_eq_true, Bool.or_eq_true, Bool.and_eq_true]
  constructor
  · rintro ⟨d, hd, h1, h2⟩
    rw [fit_or hd, Bool.or_eq_true] at h1
    rcases h1 with h1 | h1
    · exact .inl ⟨d, hd, h1, h2⟩
    · exact .inr ⟨d, hd, h1, h2⟩
  · rintro (⟨d, hd, h1, h2⟩ | ⟨d, hd, h1, h2⟩)
    · exact ⟨d, hd, by rw [fit_or hd, h1]; rfl, h2⟩
    · exact ⟨d, hd, by rw [fit_or hd, h1, Bool.or_true], h2⟩
theorem cvZ_zero (ds es : List D) : cvZ ds es 0 = 0 := by
  apply tb_ext; intro i
  rw [cvZ_tb, Nat.zero_testBit, List.any_eq_false]
  intro d hd h
  rw [Bool.and_eq_true] at h
  obtain ⟨j, _, e⟩ := sg_pow hd
  have h1 := h.1
  unfold fitIn at h1
  rw [e, decide_eq_true_iff, nl_pow, Nat.zero_testBit] at h1
  cases h1
theorem mod_step (p j : Nat) : p % 2 ^ (j + 1) = (p % 2 ^ j) ||| (if p.testBit j then 2 ^ j else 0) := by
  apply tb_ext; intro i
  rw [Nat.testBit_or, Nat.testBit_mod_two_pow, Nat.testBit_mod_two_pow]
  by_cases hij : i = j
  · subst hij
    cases h : p.testBit i <;> simp [h]
  · have h2 : (if p.testBit j then 2 ^ j else 0).testBit i = false := by
      split
      · rw [pow_tb]; simp; omega
      · exact Nat.zero_testBit _
    rw [h2, Bool.or_false]
    congr 1
    rw [decide_eq_decide]
    omega
structure CvOr (ds es : List D) (b e : Int) (p : Nat) (r : Int) (z : Nat → Nat) : Prop where
  zero : z 0 = 0
  lt : ∀ j, z j < 4096
  isv : ∀ j, mIsV es e ((z j : Nat) : Int) = true
  has : ∀ j, 2 ^ j ≤ p → mHas ds 3 ((p : Nat) : Int) ((2 ^ j : Nat) : Int) = p.testBit j
  no : ∀ j, p.testBit j = false → z (j + 1) = z j
  yes : ∀ j, p.testBit j = true → ∃ n : Nat, n < 4096 ∧ cvOk ds b es e ((2 ^ j : Nat) : Int) = true ∧ mConv ds b es e ((2 ^ j : Nat) : Int) = (n : Int) ∧ mOp orN es e ((z j : Nat) : Int) (n : Int) = ((z (j + 1) : Nat) : Int)
  last : ∀ j, p < 2 ^ j → ((z j : Nat) : Int) = r
theorem cvor_law {ds es : List D} {b e : Int} {p : Nat} (h : cvOk ds b es e (p : Int) = true) : p < 4096 ∧ vFlag ds b = true ∧ CvOr ds es b e p (mConv ds b es e (p : Int)) (fun j => cvZ ds es (p % 2 ^ j)) := by
  have h0 := h
  unfold cvOk at h0
  rw [Bool.and_eq_true] at h0
  obtain ⟨hr, hf⟩ := h0
  obtain ⟨p', hpe, hp, hv, hz, hn⟩ := cv_value hr
  have hpp : p' = p := by omega
  subst hpp
  have hfl := mIsV_flag hv
  have hc := (cv_yes (es := es) (e := e) hr).2
  rw [hn] at hf
  have hall := hf
  unfold mFromOk at hall
  rw [Bool.and_eq_true] at hall
  -- a part of p has a value of its own
  have hpart : ∀ x, nl x p' = 0 → mFromOk es e ((mIn ds x).map (·.name)) = true := by
    intro x hx
    unfold mFromOk
    rw [hall.1, Bool.true_and]
    unfold allN
    rw [List.all_eq_true]
    intro s hs
    obtain ⟨d, hd, rfl⟩ := List.mem_map.1 hs
    obtain ⟨h1, h2⟩ := List.mem_filter.1 hd
    have h3 := hall.2
    unfold allN at h3
    refine List.all_eq_true.1 h3 _ (List.mem_map.2 ⟨d, List.mem_filter.2 ⟨h1, ?_⟩, rfl⟩)
    unfold fitIn at h2 ⊢
    rw [decide_eq_true_iff] at h2 ⊢
    exact nl_trans h2 hx
  have hval : ∀ x, nl x p' = 0 → mIsV es e ((cvZ ds es x : Nat) : Int) = true ∧ cvZ ds es x < 4096 := by
    intro x hx
    have := (from_isv (hpart x hx)).2
    refine ⟨this, ?_⟩
    have := mIsV_rng this
    unfold cvZ
    exact fromTo_lt (vFlag_in hall.1) _
  have hmod : ∀ j, nl (p' % 2 ^ j) p' = 0 := by
    intro j
    rw [nl_zero]
    intro i hi
    rw [Nat.testBit_mod_two_pow, Bool.and_eq_true] at hi
    exact hi.2
  refine ⟨hp, hfl, ⟨by show cvZ ds es (p' % 2 ^ 0) = 0; rw [Nat.pow_zero, Nat.mod_one]; exact cvZ_zero ds es, fun j => (hval _ (hmod j)).2, fun j => (hval _ (hmod j)).1, ?_, ?_, ?_, ?_⟩⟩
  · intro j hj
    have h1 : 2 ^ j < 4096 := by omega
    refine has_is (mIsV_of (vFlag_3 hfl) hp (.inl rfl)) (mIsV_of (vFlag_3 hfl) h1 (.inl rfl)) ?_
    rw [Bool.eq_iff_iff, decide_eq_true_iff]
    exact nl_pow
  · intro j hj
    show cvZ ds es (p' % 2 ^ (j + 1)) = cvZ ds es (p' % 2 ^ j)
    rw [mod_step, hj]
    simp
  · intro j hj
    have hx : nl (2 ^ j) p' = 0 := nl_pow.2 hj
    have h1 : 2 ^ j < 4096 := by
      have : 2 ^ j ≤ p' := Nat.ge_two_pow_of_testBit hj
      omega
    have hvx : mIsV ds b ((2 ^ j : Nat) : Int) = true := by
      refine mIsV_of hfl h1 ?_
      by_cases h3 : b = 3
      · exact .inl h3
      · exact .inr (nl_trans hx (mIsV_part hv h3))
    have hrx := cv_rest hvx (nl_trans hx hz)
    have hnx : mNamesIn ds b ((2 ^ j : Nat) : Int) = (mIn ds (2 ^ j)).map (·.name) := by unfold mNamesIn; rw [hvx, if_pos rfl, Int.toNat_natCast]
    refine ⟨cvZ ds es (2 ^ j), (hval _ hx).2, ?_, ?_, ?_⟩
    · unfold cvOk; rw [hrx, hnx, hpart _ hx]; rfl
    · rw [(cv_yes (es := es) (e := e) hrx).2, hnx, (from_isv (hpart _ hx)).1]; rfl
    · refine op_is (hval _ (hmod j)).1 (hval _ hx).1 ?_
      show orN _ _ = cvZ ds es (p' % 2 ^ (j + 1))
      rw [mod_step, hj, if_pos rfl, cvZ_or]; rfl
  · intro j hj
    show ((cvZ ds es (p' % 2 ^ j) : Nat) : Int) = _
    rw [Nat.mod_eq_of_lt hj, hc, hn, (from_isv hf).1]; rfl
end Go.Proofs.Ytkholjcmaebaaaa
