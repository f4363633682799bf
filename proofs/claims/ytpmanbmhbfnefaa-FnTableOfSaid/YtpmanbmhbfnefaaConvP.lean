import Derived.Test.YtpmanbmhbfnefaaMissP
namespace Go.Proofs.Ytpmanbmhbfnefaa
open Go.RowKit Go.Maps
set_option linter.unusedVariables false
set_option maxRecDepth 100000

/-! ### conversions: plain facts -/
/-- The name of the first definition with a value. -/
def nmAt (ds : List D) (v : Int) : ByteArray := ds[(fidx (isVal v) ds).toNat]?.elim ⟨#[]⟩ (·.name)
theorem nmAt_at {ds : List D} {v : Int} {j : Nat} (hj : j < ds.length) (h : fidx (isVal v) ds = j) : nmAt ds v = ds[j].name := by
  unfold nmAt; rw [h, Int.toNat_natCast, List.getElem?_eq_getElem hj]; rfl
theorem mem_rank {ds : List D} {v : Int} {j r : Nat} (hj : j < ds.length) (hm : memAt ds j ds[j] = true) (hv : ds[j].val = v) (hr : r < (mems ds).length) (h : fidx (isVal v) (mems ds) = r) : (mems ds)[r] = ds[j] := by
  have hin : ds[j] ∈ mems ds := memTo_has ds ds.length (Nat.le_refl _) j hj hj hm
  obtain ⟨q, hq, e⟩ := List.mem_iff_getElem.1 hin
  have h2 : fidx (isVal v) (mems ds) = (q : Int) := (rank_iff hq v).2 (by rw [e, hv])
  have h3 : q = r := by omega
  subst h3; exact e
/-- The member of a name: the first name with its value. -/
theorem nmAt_mem {ds : List D} {k r : Nat} (hk : k < ds.length) (hr : r < (mems ds).length) (h : fidx (isVal ds[k].val) (mems ds) = r) : (mems ds)[r].name = nmAt ds ds[k].val := by
  obtain ⟨j, hj, hf, he, hm, _⟩ := first_of k hk
  rw [mem_rank hj hm he hr h, nmAt_at hj hf]
theorem nm_first {ds : List D} (hv : vEnum ds = true) (k : Nat) (hk : k < ds.length) : fidx (isNm ds[k].name) ds = (k : Int) := by
  rcases fidx_cases (isNm ds[k].name) ds with ⟨_, hn⟩ | ⟨j, hj, h1, hp, _⟩
  · have := hn k hk hk
    unfold isNm at this
    simp at this
  · have e := names_apart hv j k hj hk (isNm_iff.1 hp)
    rw [h1, e]
def byOk (a b : List D) (s : ByteArray) : Bool := vEnum a && vEnum b && decide (0 ≤ fidx (isNm s) a) && decide (0 ≤ fidx (isNm s) b)
def mByN (a b : List D) (s : ByteArray) : ByteArray := if byOk a b s then nmAt b (valI b s) else ⟨#[]⟩
def byVOk (a b : List D) (s : ByteArray) : Bool := vEnum a && vEnum b && decide (0 ≤ fidx (isNm s) a) && decide (0 ≤ fidx (isVal (valI a s)) b)
def mByV (a b : List D) (s : ByteArray) : ByteArray := if byVOk a b s then nmAt b (valI a s) else ⟨#[]⟩
/-- Definitions with what is made of their ranks. -/
def rkL (f : Int → Int) (ds : List D) : List D := ds.map fun d => ⟨d.name, f (fidx (isVal d.val) (mems ds))⟩
def byR (f : Int → Int) (ds : List D) : List D := if vEnum ds then rkL f ds else []
theorem rkL_len (f : Int → Int) (ds : List D) : (rkL f ds).length = ds.length := List.length_map _
theorem rkL_at (f : Int → Int) {ds : List D} {k : Nat} (hk : k < ds.length) : (rkL f ds)[k]'(by rw [rkL_len]; exact hk) = ⟨ds[k].name, f (fidx (isVal ds[k].val) (mems ds))⟩ := by
  unfold rkL; rw [List.getElem_map]
theorem byR_len (f : Int → Int) (ds : List D) : (byR f ds).length ≤ 12 := by
  unfold byR
  cases h : vEnum ds
  · exact Nat.zero_le _
  · rw [if_pos rfl, rkL_len]; exact vEnum_len h
theorem flat_rk (f : Int → Int) {ds : List D} {k : Nat} (hk : k < ds.length) : flat ((rkL f ds).take (k + 1)) = flat ((rkL f ds).take k) ++ [.string ds[k].name, .int .i64 (f (fidx (isVal ds[k].val) (mems ds)))] := by
  rw [flat_snoc (rkL f ds) k (by rw [rkL_len]; exact hk), rkL_at f hk]
/-- A rank is one. -/
theorem rk_in {ds : List D} {k : Nat} (hv : vEnum ds = true) (hk : k < ds.length) : ∃ r : Nat, r < 12 ∧ r < (mems ds).length ∧ fidx (isVal ds[k].val) (mems ds) = (r : Int) := by
  obtain ⟨r, hr, h⟩ := rank_in k hk
  exact ⟨r, by have := mems_12 hv; omega, hr, h⟩
theorem rkL_ok {f : Int → Int} {ds : List D} (hv : vEnum ds = true) (hok : ∀ d ∈ ds, d.ok) (hf : ∀ r : Nat, r < (mems ds).length → -9223372036854775808 ≤ f r ∧ f r ≤ 9223372036854775807) : ∀ d ∈ rkL f ds, d.ok := by
  intro d hd
  unfold rkL at hd
  obtain ⟨x, hx, rfl⟩ := List.mem_map.1 hd
  obtain ⟨k, hk, rfl⟩ := List.mem_iff_getElem.1 hx
  obtain ⟨r, _, hr, h⟩ := rk_in hv hk
  refine ⟨(hok _ hx).1, ?_⟩
  simp only
  rw [h]
  exact hf r hr
theorem byR_ok {f : Int → Int} {ds : List D} (hok : ∀ d ∈ ds, d.ok) (hf : ∀ r : Nat, r < 12 → -9223372036854775808 ≤ f r ∧ f r ≤ 9223372036854775807) : ∀ d ∈ byR f ds, d.ok := by
  unfold byR
  cases h : vEnum ds
  · intro d hd; cases hd
  · rw [if_pos rfl]; exact rkL_ok h hok fun r hr => hf r (by have := mems_12 h; omega)
def idR (r : Int) : Int := r
def bitR (r : Int) : Int := ((2 ^ r.toNat : Nat) : Int)
theorem idR_i {r : Nat} (h : r < 12) : -9223372036854775808 ≤ idR r ∧ idR r ≤ 9223372036854775807 := by unfold idR; omega
theorem bitR_n (r : Nat) : bitR r = ((2 ^ r : Nat) : Int) := by unfold bitR; rw [Int.toNat_natCast]
theorem bitR_lt {r : Nat} (h : r < 12) : 0 ≤ bitR r ∧ bitR r ≤ 2048 := by
  rw [bitR_n]
  have h2 : 2 ^ r ≤ 2 ^ 11 := Nat.pow_le_pow_right (by decide) (by omega)
  generalize 2 ^ r = p at *
  omega
theorem bitR_i {r : Nat} (h : r < 12) : -9223372036854775808 ≤ bitR r ∧ bitR r ≤ 9223372036854775807 := by have := bitR_lt h; omega
def mRenum (ds : List D) : List D := byR idR ds
def mBits (ds : List D) : List D := byR bitR ds
/-- Bits of ranks are flags. -/
theorem fidx_nm_map (g : D → Int) (s : ByteArray) (l : List D) : fidx (isNm s) (l.map fun d => (⟨d.name, g d⟩ : D)) = fidx (isNm s) l := by
  rw [fidx_map]; rfl
theorem mBits_flag (ds : List D) : vFlag (mBits ds) 0 = true := by
  unfold mBits byR
  cases h : vEnum ds
  · rfl
  · rw [if_pos rfl]
    have hl := vEnum_len h
    unfold vFlag vDefs
    have hg : goodTo 0 4095 (rkL bitR ds) (rkL bitR ds).length := by
      intro i hi hii
      have hi2 : i < ds.length := by rw [rkL_len] at hi; exact hi
      have hgd := vEnum_good h i hi2 hi2
      rw [rkL_at bitR hi2]
      obtain ⟨r, hr, _, hrk⟩ := rk_in h hi2
      rw [hrk]
      have hb := bitR_lt hr
      unfold goodAt at hgd ⊢
      simp only [Bool.and_eq_true, decide_eq_true_eq] at hgd ⊢
      refine ⟨⟨hgd.1.1, by omega, by omega⟩, ?_⟩
      have e : (rkL bitR ds).take i = (ds.take i).map fun d => (⟨d.name, bitR (fidx (isVal d.val) (mems ds))⟩ : D) := by unfold rkL; rw [List.map_take]
      rw [e, fidx_nm_map]
      exact hgd.2
    rw [decide_eq_true hg, decide_eq_true (by rw [rkL_len]; exact hl)]
    rfl
theorem mBits_yes {ds : List D} (h : vEnum ds = true) : mBits ds = rkL bitR ds := by unfold mBits byR; rw [h, if_pos rfl]
theorem mBits_no {ds : List D} (h : vEnum ds = false) : mBits ds = [] := by unfold mBits byR; rw [h]; rfl
theorem mBits_ok {ds : List D} (hok : ∀ d ∈ ds, d.ok) : ∀ d ∈ mBits ds, d.ok := byR_ok hok fun r h => bitR_i h
theorem mBits_len (ds : List D) : (mBits ds).length ≤ 12 := byR_len _ _
/-- Sets of names. -/
def mSetOk (ds : List D) (ss : List ByteArray) : Bool := vEnum ds && mFromOk (mBits ds) 0 ss
def mSet (ds : List D) (ss : List ByteArray) : Int := if vEnum ds then mFrom (mBits ds) 0 ss else 0
def mMemIn (ds : List D) (x : Int) : List ByteArray := if vEnum ds then mNamesIn (mBits ds) 0 x else []
theorem mMemIn_is (ds : List D) (x : Int) : mMemIn ds x = mNamesIn (mBits ds) 0 x := by
  unfold mMemIn
  cases h : vEnum ds
  · have hz : ∀ a, mIn [] a = [] := by
      intro a
      refine List.eq_nil_iff_forall_not_mem.2 fun d hd => ?_
      obtain ⟨h1, _⟩ := sgTo_in (mWithin_mem hd)
      cases h1
    rw [mBits_no h]
    unfold mNamesIn
    cases mIsV [] 0 x
    · rfl
    · rw [if_pos rfl, hz]; rfl
  · rw [if_pos rfl]
end Go.Proofs.Ytpmanbmhbfnefaa
