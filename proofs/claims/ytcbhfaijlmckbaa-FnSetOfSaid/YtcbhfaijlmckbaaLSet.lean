import Derived.Test.YtcbhfaijlmckbaaLConv
import Derived.Test.YtcbhfaijlmckbaaLAlgT
import Derived.Test.YtcbhfaijlmckbaaLBase
namespace Go.Proofs.Ytcbhfaijlmckbaa
open Go.RowKit Go.Maps
set_option linter.unusedVariables false
set_option maxRecDepth 100000

/-! ### sets of members: plain facts -/
def bitD (ds : List D) (d : D) : D := ⟨d.name, bitR (fidx (isVal d.val) (mems ds))⟩
theorem bits_is {ds : List D} (hv : vEnum ds = true) : mBits ds = ds.map (bitD ds) := mBits_yes hv
theorem pow_inj {a b : Nat} (h : (2 : Nat) ^ a = 2 ^ b) : a = b := by
  have := congrArg (fun x => x.testBit a) h
  simp only [pow_tb] at this
  have h2 : b = a := by simpa using this.symm
  exact h2.symm
theorem find_congr {α : Type} {p q : α → Bool} {l : List α} (h : ∀ x ∈ l, p x = q x) : l.find? p = l.find? q := by
  induction l with
  | nil => rfl
  | cons x r ih =>
    rw [List.find?_cons, List.find?_cons, h x (List.mem_cons_self ..), ih fun y hy => h y (List.mem_cons_of_mem _ hy)]
theorem flt_len {α : Type} (q : α → Bool) (l : List α) : (l.filter q).length + (l.filter fun x => !q x).length = l.length := by
  induction l with
  | nil => rfl
  | cons x r ih =>
    rw [List.filter_cons, List.filter_cons]
    cases q x
    · simp only [Bool.false_eq_true, if_false, Bool.not_false, if_true, List.length_cons]; omega
    · simp only [if_true, Bool.not_true, Bool.false_eq_true, if_false, List.length_cons]; omega
theorem bitD_val {ds : List D} {k r : Nat} (hk : k < ds.length) (hr : fidx (isVal ds[k].val) (mems ds) = (r : Int)) : (bitD ds ds[k]).val = ((2 ^ r : Nat) : Int) := by
  show bitR _ = _
  rw [hr, bitR_n]
theorem sgAt_bits {ds : List D} (hv : vEnum ds = true) (i : Nat) : sgAt (mBits ds) i = ((mems ds)[i]?).toList.map (bitD ds) := by
  have hf : ∀ d ∈ ds, isVal ((2 ^ i : Nat) : Int) (bitD ds d) = decide (fidx (isVal d.val) (mems ds) = (i : Int)) := by
    intro d hd
    obtain ⟨k, hk, rfl⟩ := List.mem_iff_getElem.1 hd
    obtain ⟨r, _, hr, h⟩ := rk_in hv hk
    show ((bitD ds ds[k]).val == ((2 ^ i : Nat) : Int)) = _
    rw [bitD_val hk h, h, Bool.eq_iff_iff]
    simp only [beq_iff_eq, decide_eq_true_eq]
    constructor
    · intro e; have := pow_inj (Int.ofNat.inj e); omega
    · intro e; have : r = i := by omega
      rw [this]
  unfold sgAt
  rw [bits_is hv, List.find?_map]
  have hcong : ds.find? ((isVal ((2 ^ i : Nat) : Int)) ∘ bitD ds) = ds.find? fun d => decide (fidx (isVal d.val) (mems ds) = (i : Int)) := by
    exact find_congr hf
  rw [hcong]
  by_cases hi : i < (mems ds).length
  · rw [List.getElem?_eq_getElem hi]
    have hm : (mems ds)[i] ∈ mems ds := List.getElem_mem hi
    obtain ⟨j, hj, hjl, he, hmem⟩ := memTo_mem ds ds.length (Nat.le_refl _) _ hm
    have hfind : ds.find? (fun d => decide (fidx (isVal d.val) (mems ds) = (i : Int))) = some (mems ds)[i] := by
      rw [List.find?_eq_some_iff_getElem]
      refine ⟨by rw [(rank_iff hi _).2 rfl]; simp, j, hj, he, fun q hq => ?_⟩
      have hq2 : q < ds.length := by omega
      simp only [Bool.not_eq_true', decide_eq_false_iff_not]
      intro h
      have h1 := (rank_iff hi _).1 h
      unfold memAt at hmem
      simp only [Bool.not_eq_true', List.any_eq_false] at hmem
      have h2 := hmem ds[q] (by rw [List.mem_iff_getElem]; exact ⟨q, by simp; omega, by simp⟩)
      unfold isVal at h2
      rw [h1] at h2
      simp at h2
    rw [hfind]; rfl
  · rw [List.getElem?_eq_none (by omega)]
    have hfind : ds.find? (fun d => decide (fidx (isVal d.val) (mems ds) = (i : Int))) = none := by
      rw [List.find?_eq_none]
      intro d hd
      obtain ⟨k, hk, rfl⟩ := List.mem_iff_getElem.1 hd
      obtain ⟨r, _, hr, h⟩ := rk_in hv hk
      rw [h]; simp; omega
    rw [hfind]; rfl
theorem sg_bits {ds : List D} (hv : vEnum ds = true) : mSg (mBits ds) = (mems ds).map (bitD ds) := by
  have key : ∀ k, sgTo (mBits ds) k = ((mems ds).take k).map (bitD ds) := by
    intro k
    induction k with
    | zero => rfl
    | succ k ih =>
      show sgTo (mBits ds) k ++ sgAt (mBits ds) k = _
      rw [ih, sgAt_bits hv, List.take_add_one, List.map_append]
  have h12 := mems_12 hv
  unfold mSg
  rw [key, List.take_of_length_le (by omega)]
theorem valN_bits {ds : List D} (hv : vEnum ds = true) {s : ByteArray} (h : 0 ≤ fidx (isNm s) ds) : ∃ r : Nat, r < 12 ∧ fidx (isVal (valI ds s)) (mems ds) = (r : Int) ∧ valN (mBits ds) s = 2 ^ r := by
  rcases fidx_cases (isNm s) ds with ⟨h1, _⟩ | ⟨k, hk, h1, _, _⟩
  · omega
  · obtain ⟨r, hr, _, h2⟩ := rk_in hv hk
    refine ⟨r, hr, by rw [valI_at hk h1]; exact h2, ?_⟩
    have hb : k < (mBits ds).length := by rw [bits_is hv, List.length_map]; exact hk
    have hx : fidx (isNm s) (mBits ds) = (k : Int) := by
      rw [bits_is hv]
      show fidx (isNm s) (ds.map fun d => (⟨d.name, bitR (fidx (isVal d.val) (mems ds))⟩ : D)) = _
      rw [fidx_nm_map]; exact h1
    rw [valN_at hb hx]
    simp only [bits_is hv, List.getElem_map]
    rw [bitD_val hk h2, Int.toNat_natCast]
theorem tb_or_fold (f : ByteArray → Nat) (ss : List ByteArray) (m i : Nat) : (ss.foldl (fun m s => m ||| f s) m).testBit i = (m.testBit i || ss.any fun s => (f s).testBit i) := by
  induction ss generalizing m with
  | nil => simp
  | cons s r ih => rw [List.foldl_cons, ih, Nat.testBit_or, List.any_cons, Bool.or_assoc]
theorem set_bit {ds : List D} (hv : vEnum ds = true) {ss : List ByteArray} (h : allN ds ss = true) (r : Nat) : (fromTo (mBits ds) ss).testBit r = metR ds ss r := by
  unfold fromTo metR
  rw [tb_or_fold, Nat.zero_testBit, Bool.false_or]
  unfold allN at h
  rw [List.all_eq_true] at h
  rw [Bool.eq_iff_iff, List.any_eq_true, List.any_eq_true]
  have hs : ∀ s ∈ ss, (valN (mBits ds) s).testBit r = decide (fidx (isVal (valI ds s)) (mems ds) = (r : Int)) := by
    intro s hs
    obtain ⟨q, _, h1, h2⟩ := valN_bits hv (by simpa using h s hs)
    rw [h2, h1, pow_tb, decide_eq_decide]
    omega
  constructor
  · rintro ⟨s, h1, h2⟩; exact ⟨s, h1, by rw [← hs s h1]; exact h2⟩
  · rintro ⟨s, h1, h2⟩; exact ⟨s, h1, by rw [hs s h1]; exact h2⟩
theorem allN_bits {ds : List D} (hv : vEnum ds = true) (ss : List ByteArray) : allN (mBits ds) ss = allN ds ss := by
  unfold allN
  congr 1
  funext s
  have : fidx (isNm s) (mBits ds) = fidx (isNm s) ds := by
    rw [bits_is hv]
    show fidx (isNm s) (ds.map fun d => (⟨d.name, bitR (fidx (isVal d.val) (mems ds))⟩ : D)) = _
    rw [fidx_nm_map]
  rw [this]
/-- What the law of sets asks. -/
structure SetL (ds : List D) (ss : List ByteArray) (x : Int) (got miss all : List ByteArray) : Prop where
  got_ : mMemIn ds x = got
  miss_ : mMissM ds ss = miss
  all_ : mMembers ds = all
  has : ∀ k (h : k < all.length), ∃ v, got.any (hT all[k]) = v ∧ miss.any (hT all[k]) = !v
  back : mSet ds got = x ∧ mSetOk ds got = true
  len : got.length + miss.length = all.length
theorem names_any {ds : List D} (hv : vEnum ds = true) (q : D → Bool) {d : D} (hd : d ∈ mems ds) : (((mems ds).filter q).map (·.name)).any (hT d.name) = q d := by
  rw [Bool.eq_iff_iff, List.any_eq_true]
  constructor
  · rintro ⟨t, ht, h⟩
    obtain ⟨e, he, rfl⟩ := List.mem_map.1 ht
    obtain ⟨he1, he2⟩ := List.mem_filter.1 he
    have hn : e.name = d.name := (hT_iff.1 h)
    obtain ⟨i, hi, e1⟩ := List.mem_iff_getElem.1 (memTo_in ds _ _ he1)
    obtain ⟨j, hj, e2⟩ := List.mem_iff_getElem.1 (memTo_in ds _ _ hd)
    have hij := names_apart hv i j hi hj (by rw [e1, e2]; exact hn)
    subst hij
    rw [← e2, e1]; exact he2
  · intro h
    exact ⟨d.name, List.mem_map.2 ⟨d, List.mem_filter.2 ⟨hd, h⟩, rfl⟩, hT_iff.2 rfl⟩
theorem set_law {ds : List D} {ss : List ByteArray} (h : mSetOk ds ss = true) : SetL ds ss (mSet ds ss) (mMemIn ds (mSet ds ss)) (mMissM ds ss) (mMembers ds) := by
  unfold mSetOk at h
  rw [Bool.and_eq_true] at h
  obtain ⟨hv, hf⟩ := h
  have ha : allN ds ss = true := by
    unfold mFromOk at hf
    rw [Bool.and_eq_true, allN_bits hv] at hf
    exact hf.2
  obtain ⟨p, hp⟩ : ∃ p, fromTo (mBits ds) ss = p := ⟨_, rfl⟩
  have hx : mSet ds ss = (p : Int) := by unfold mSet mFrom; rw [hv, if_pos rfl, hf, if_pos rfl, hp]
  have hp4 : p < 4096 := by rw [← hp]; exact fromTo_lt (vFlag_in (mBits_flag ds)) ss
  have hpart : nl p (mMask (mBits ds)) = 0 := by rw [← hp]; exact fromTo_part (by rw [allN_bits hv]; exact ha)
  have hisv : mIsV (mBits ds) 0 (p : Int) = true := mIsV_of (mBits_flag ds) hp4 (.inr hpart)
  have hgot : mMemIn ds (p : Int) = ((mems ds).filter fun d => metV ds ss d.val).map (·.name) := by
    unfold mMemIn mNamesIn
    rw [hv, if_pos rfl, hisv, if_pos rfl, Int.toNat_natCast]
    unfold mIn mWithin
    rw [sg_bits hv, List.filter_map, List.map_map]
    have h1 : (mems ds).filter ((fitIn p) ∘ bitD ds) = (mems ds).filter fun d => metV ds ss d.val := by
      apply List.filter_congr
      intro d hd
      obtain ⟨r, hr, rfl⟩ := List.mem_iff_getElem.1 hd
      simp only [Function.comp]
      unfold fitIn
      have hval : (bitD ds (mems ds)[r]).val = ((2 ^ r : Nat) : Int) := by
        show bitR _ = _
        rw [(rank_iff hr _).2 rfl, bitR_n]
      rw [hval, Int.toNat_natCast, ← metR_is ss hr, ← set_bit hv ha, hp, Bool.eq_iff_iff, decide_eq_true_eq]
      exact nl_pow
    rw [h1]
    rfl
  have hmiss : mMissM ds ss = ((mems ds).filter fun d => !metV ds ss d.val).map (·.name) := by
    unfold mMissM mMissOk
    rw [hv, ha]
    show (missD ds ss (mems ds).length).map _ = _
    unfold missD
    rw [List.take_of_length_le (Nat.le_refl _)]
  rw [hx]
  refine ⟨rfl, rfl, rfl, ?_, ?_, ?_⟩
  · intro k hk
    have hk2 : k < (mems ds).length := by rw [mMembers_yes hv, List.length_map] at hk; exact hk
    have e : (mMembers ds)[k] = (mems ds)[k].name := by simp only [mMembers_yes hv, List.getElem_map]
    refine ⟨_, rfl, ?_⟩
    rw [e, hgot, hmiss, names_any hv _ (List.getElem_mem hk2), names_any hv _ (List.getElem_mem hk2)]
  · have hmi : mMemIn ds (p : Int) = (mIn (mBits ds) p).map (·.name) := by unfold mMemIn mNamesIn; rw [hv, if_pos rfl, hisv, if_pos rfl, Int.toNat_natCast]
    obtain ⟨h1, h2⟩ := from_names (mBits_flag ds) (mIn (mBits ds) p) (fun d hd => (sgTo_in (mWithin_mem hd)).1)
    have h3 := in_rest (mBits ds) p
    have h4 : nl p (mMask (mSg (mBits ds))) = 0 := by rw [bits_mask]; exact hpart
    have h5 : mMask (mIn (mBits ds) p) = p := by omega
    unfold mSetOk mSet
    rw [hmi, hv, if_pos rfl]
    exact ⟨by rw [h1, h5], by rw [h2]; rfl⟩
  · rw [hgot, hmiss, mMembers_yes hv, List.length_map, List.length_map, List.length_map]
    exact flt_len (fun d => metV ds ss d.val) (mems ds)
end Go.Proofs.Ytcbhfaijlmckbaa
