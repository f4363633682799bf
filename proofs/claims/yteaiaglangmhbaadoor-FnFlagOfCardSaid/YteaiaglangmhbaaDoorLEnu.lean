/-
Plain facts on EnumOf and FlagOf, as their laws ask for them. No program in sight.
-/
import Derived.Test.YteaiaglangmhbaaDoorBaseP
import Derived.Test.YteaiaglangmhbaaDoorLSg
import Derived.Test.YteaiaglangmhbaaDoorLRen
import Derived.Test.YteaiaglangmhbaaDoorMissP
import Derived.Test.YteaiaglangmhbaaDoorEnuP
import Derived.Test.YteaiaglangmhbaaDoorSortI
namespace Go.Proofs.YteaiaglangmhbaaDoor
set_option linter.unusedVariables false
set_option maxRecDepth 100000

theorem mems_iff {ds : List D} {d : D} : d ∈ mems ds ↔ ds.find? (isVal d.val) = some d := by
  constructor
  · intro hm
    obtain ⟨i, hi, rfl⟩ := List.mem_iff_getElem.1 hm
    obtain ⟨j, hj, e, hf⟩ := mems_get ds i hi
    rw [e]
    exact find_of hj hf
  · intro h
    obtain ⟨k, hk, h2, h3⟩ := of_find h
    rw [← h3]
    exact mems_has k hk (by rw [h3]; exact h2)
theorem mems_sub (ds : List D) : ∀ k, k ≤ ds.length → (memTo ds k).Sublist (ds.take k) := by
  intro k
  induction k with
  | zero => intro _; exact List.nil_sublist _
  | succ k ih =>
    intro hk
    rw [memTo_succ ds k (by omega), List.take_succ_eq_append_getElem (by omega : k < ds.length)]
    refine (ih (by omega)).append ?_
    cases memAt ds k ds[k]
    · exact List.nil_sublist _
    · exact List.Sublist.refl _
theorem mems_up {ds : List D} (h : sortedV ds) : (mems ds).Pairwise fun a b => a.val < b.val := by
  have h1 : (mems ds).Pairwise fun a b => a.val ≤ b.val := by
    have hs := mems_sub ds ds.length (Nat.le_refl _)
    rw [List.take_of_length_le (Nat.le_refl _)] at hs
    exact List.Pairwise.sublist hs h
  have h2 := List.pairwise_iff_getElem.1 h1
  have h3 := List.pairwise_iff_getElem.1 (mems_apart ds)
  refine List.pairwise_iff_getElem.2 fun i j hi hj hij => ?_
  have := h2 i j hi hj hij
  have := h3 i j hi hj hij
  omega
theorem eq_of_lt : ∀ (a b : List D), (a.Pairwise fun x y => x.val < y.val) → (b.Pairwise fun x y => x.val < y.val) → (∀ x, x ∈ a ↔ x ∈ b) → a = b := by
  intro a
  induction a with
  | nil =>
    intro b _ _ h
    refine (List.eq_nil_iff_forall_not_mem.2 fun x hx => ?_).symm
    have := (h x).2 hx
    cases this
  | cons x a ih =>
    intro b ha hb h
    cases b with
    | nil => have := (h x).1 (by simp); cases this
    | cons y b =>
      rw [List.pairwise_cons] at ha hb
      have hxy : x = y := by
        rcases List.mem_cons.1 ((h x).1 (by simp)) with e | h1
        · exact e
        · rcases List.mem_cons.1 ((h y).2 (by simp)) with e | h2
          · exact e.symm
          · have := hb.1 x h1
            have := ha.1 y h2
            omega
      subst hxy
      congr 1
      refine ih b ha.2 hb.2 fun z => ?_
      constructor
      · intro hz
        rcases List.mem_cons.1 ((h z).1 (List.mem_cons_of_mem _ hz)) with e | h1
        · have := ha.1 z hz; rw [e] at this; omega
        · exact h1
      · intro hz
        rcases List.mem_cons.1 ((h z).2 (List.mem_cons_of_mem _ hz)) with e | h1
        · have := hb.1 z hz; rw [e] at this; omega
        · exact h1
theorem sgAt_iff {ds : List D} {i : Nat} {d : D} : d ∈ sgAt ds i ↔ ds.find? (isVal ((2 ^ i : Nat) : Int)) = some d := by
  unfold sgAt
  cases ds.find? (isVal ((2 ^ i : Nat) : Int)) with
  | none => simp
  | some x => simp [eq_comm]
theorem sgTo_iff {ds : List D} {d : D} : ∀ k, d ∈ sgTo ds k ↔ ∃ i, i < k ∧ ds.find? (isVal ((2 ^ i : Nat) : Int)) = some d := by
  intro k
  induction k with
  | zero => constructor
            · intro h; cases h
            · rintro ⟨i, h, _⟩; omega
  | succ k ih =>
    show d ∈ sgTo ds k ++ sgAt ds k ↔ _
    rw [List.mem_append, ih, sgAt_iff]
    constructor
    · rintro (⟨i, h1, h2⟩ | h)
      · exact ⟨i, by omega, h2⟩
      · exact ⟨k, by omega, h⟩
    · rintro ⟨i, h1, h2⟩
      by_cases e : i = k
      · subst e; exact .inr h2
      · exact .inl ⟨i, by omega, h2⟩
theorem find_val {ds : List D} {v : Int} {d : D} (h : ds.find? (isVal v) = some d) : d.val = v := by
  have := List.find?_some h
  unfold isVal at this
  simpa using this
theorem find_congr {p q : D → Bool} : ∀ l : List D, (∀ x ∈ l, p x = q x) → l.find? p = l.find? q := by
  intro l
  induction l with
  | nil => intro _; rfl
  | cons x l ih =>
    intro h
    rw [List.find?_cons, List.find?_cons, h x (by simp), ih fun y hy => h y (List.mem_cons_of_mem _ hy)]
theorem one_iff {d : D} (h : inR d) (i : Nat) : (oneB d = true ∧ Nat.log2 d.val.toNat = i) ↔ d.val = ((2 ^ i : Nat) : Int) := by
  unfold inR at h
  have hz : ((d.val.toNat : Nat) : Int) = d.val := Int.toNat_of_nonneg h.1
  unfold oneB
  rw [decide_eq_true_eq]
  constructor
  · rintro ⟨h1, h2⟩
    obtain ⟨j, hj, e⟩ := popc_one 12 d.val.toNat (by omega) h1
    rw [e, log_pow] at h2
    subst h2
    rw [← hz, e]
  · intro e
    have e2 : d.val.toNat = 2 ^ i := by rw [e, Int.toNat_natCast]
    rw [e2]
    exact ⟨popc_pow i, log_pow i⟩
theorem enu_find {ds : List D} (hin : ∀ d ∈ ds, inR d) (i : Nat) : (mEnu ds).find? (isVal (i : Int)) = (ds.find? (isVal ((2 ^ i : Nat) : Int))).map idxD := by
  unfold mEnu
  rw [List.find?_map, List.find?_filter]
  congr 1
  refine find_congr ds fun d hd => ?_
  have h1 := one_iff (hin d hd) i
  rw [Bool.eq_iff_iff, decide_eq_true_eq]
  show (oneB d = true ∧ isVal (i : Int) (idxD d) = true) ↔ isVal ((2 ^ i : Nat) : Int) d = true
  unfold isVal idxD
  simp only [beq_iff_eq]
  rw [← h1]
  refine and_congr Iff.rfl ?_
  omega
theorem pow_12 {i : Nat} (h : ((2 ^ i : Nat) : Int) ≤ 4095) : i < 12 := by
  have h2 : (2 : Nat) ^ i < 2 ^ 12 := by
    have : (2 : Nat) ^ i ≤ 4095 := by omega
    exact Nat.lt_of_le_of_lt this (by decide)
  exact (Nat.pow_lt_pow_iff_right (show 1 < 2 by decide)).1 h2
theorem sg_mems {ds : List D} (hin : ∀ d ∈ ds, inR d) : mems (srt (mEnu ds)) = (mSg ds).map idxD := by
  refine eq_of_lt _ _ (mems_up (srt_sorted _)) ?_ fun z => ?_
  · rw [List.pairwise_map]
    refine List.Pairwise.imp_of_mem ?_ (sgTo_up ds 12)
    intro a b ha hb hab
    obtain ⟨_, i, _, e1⟩ := sgTo_in ha
    obtain ⟨_, j, _, e2⟩ := sgTo_in hb
    show ((Nat.log2 a.val.toNat : Nat) : Int) < ((Nat.log2 b.val.toNat : Nat) : Int)
    have ea : a.val.toNat = 2 ^ i := by rw [e1, Int.toNat_natCast]
    have eb : b.val.toNat = 2 ^ j := by rw [e2, Int.toNat_natCast]
    rw [ea, eb] at hab ⊢
    rw [log_pow, log_pow]
    have := (Nat.pow_lt_pow_iff_right (show 1 < 2 by decide)).1 hab
    omega
  · rw [mems_iff, ← List.head?_filter, srt_filter, List.head?_filter]
    constructor
    · intro h
      obtain ⟨d0, h0, rfl⟩ := List.mem_map.1 (List.mem_of_find?_eq_some h)
      have h : (mEnu ds).find? (isVal ((Nat.log2 d0.val.toNat : Nat) : Int)) = some (idxD d0) := h
      rw [enu_find hin] at h
      obtain ⟨d, hd, e⟩ := Option.map_eq_some_iff.1 h
      rw [← e]
      refine List.mem_map_of_mem ((sgTo_iff 12).2 ⟨_, ?_, hd⟩)
      have h1 := find_val hd
      have h2 := (hin d (List.mem_of_find?_eq_some hd)).2
      rw [h1] at h2
      exact pow_12 h2
    · intro h
      obtain ⟨d, hd, rfl⟩ := List.mem_map.1 h
      obtain ⟨i, hi, hf⟩ := (sgTo_iff 12).1 hd
      have e : (idxD d).val = (i : Int) := by
        show ((Nat.log2 d.val.toNat : Nat) : Int) = (i : Int)
        rw [find_val hf, Int.toNat_natCast, log_pow]
      rw [e, enu_find hin, hf]
      rfl
theorem flag_nodup {ds : List D} {b : Int} (hv : vFlag ds b = true) : NoDup ds := by
  refine List.pairwise_iff_getElem.2 fun i j hi hj hij e => ?_
  have h1 := nm_idxF hv i hi
  have h2 := nm_idxF hv j hj
  rw [e, h2] at h1
  omega
theorem flag_name {ds : List D} {b : Int} (hv : vFlag ds b = true) {d : D} (hd : d ∈ ds) : vName d.name = true := by
  obtain ⟨i, hi, rfl⟩ := List.mem_iff_getElem.1 hd
  have := vDefs_good (vFlag_defs hv) i hi hi
  unfold goodAt at this
  simp only [Bool.and_eq_true] at this
  exact this.1.1
theorem enu_enum {ds : List D} {b : Int} (hv : vFlag ds b = true) : vEnum (mEnu ds) = true := by
  refine (vEnum_iff _).2 ⟨Nat.le_trans (mEnu_len ds) (vFlag_len hv), fun d hd => ?_, ?_⟩
  · obtain ⟨e, he, rfl⟩ := List.mem_map.1 hd
    obtain ⟨he, h1⟩ := List.mem_filter.1 he
    have h2 := vFlag_in hv e he
    have h3 := (one_iff h2 _).1 ⟨h1, rfl⟩
    have h4 : Nat.log2 e.val.toNat < 12 := pow_12 (by rw [← h3]; exact h2.2)
    refine ⟨show vName e.name = true from flag_name hv he, ?_, ?_⟩
    · show (-1000 : Int) ≤ ((Nat.log2 e.val.toNat : Nat) : Int); omega
    · show ((Nat.log2 e.val.toNat : Nat) : Int) ≤ 1000; omega
  · unfold NoDup mEnu
    rw [List.pairwise_map]
    exact List.Pairwise.sublist List.filter_sublist (flag_nodup hv)
theorem srt_enum {ds : List D} (hv : vEnum ds = true) : vEnum (srt ds) = true := (mSame_iff.1 (srt_same hv)).1
theorem mEnum_yes {ds : List D} {b : Int} (hv : vFlag ds b = true) : mEnum ds b = mEnu ds := by unfold mEnum; rw [hv, if_pos rfl]
/-- What the law of EnumOf asks. -/
structure EnuL (ds : List D) (b : Int) (es : List D) : Prop where
  ve : vEnum es = true
  mem : mMembers (mSort es) = mSgOf ds b
theorem enum_law {ds : List D} {b : Int} (hv : vFlag ds b = true) : EnuL ds b (mEnum ds b) := by
  rw [mEnum_yes hv]
  have h1 := enu_enum hv
  have h2 := srt_enum h1
  refine ⟨h1, ?_⟩
  have e1 : mSort (mEnu ds) = srt (mEnu ds) := by unfold mSort; rw [h1, if_pos rfl]
  have e2 : mSgOf ds b = (mSg ds).map (·.name) := if_yes hv
  rw [e1, e2, mMembers_yes h2, sg_mems (vFlag_in hv), List.map_map]
  rfl
theorem bits_at {ds : List D} (hv : vEnum ds = true) {d : D} (hd : d ∈ ds) : ∃ r : Nat, r < 12 ∧ fidx (isVal d.val) (mems ds) = (r : Int) := by
  obtain ⟨k, hk, rfl⟩ := List.mem_iff_getElem.1 hd
  obtain ⟨r, h1, _, h3⟩ := rk_in hv hk
  exact ⟨r, h1, h3⟩
theorem bits_enu {ds : List D} (hv : vEnum ds = true) : mEnu (rkL bitR ds) = rkL idR ds := by
  unfold mEnu
  have hf : (rkL bitR ds).filter oneB = rkL bitR ds := by
    rw [List.filter_eq_self]
    intro x hx
    obtain ⟨d, hd, rfl⟩ := List.mem_map.1 hx
    obtain ⟨r, hr, e⟩ := bits_at hv hd
    unfold oneB
    show decide (popc (bitR (fidx (isVal d.val) (mems ds))).toNat = 1) = true
    rw [e, bitR_n, Int.toNat_natCast, popc_pow]
    rfl
  rw [hf]
  unfold rkL
  rw [List.map_map]
  refine List.map_congr_left fun d hd => ?_
  obtain ⟨r, hr, e⟩ := bits_at hv hd
  show (⟨d.name, ((Nat.log2 (bitR (fidx (isVal d.val) (mems ds))).toNat : Nat) : Int)⟩ : D) = ⟨d.name, idR (fidx (isVal d.val) (mems ds))⟩
  rw [e, bitR_n, Int.toNat_natCast, log_pow]
  rfl
theorem ren_up {ds : List D} : (mems (rkL idR ds)).Pairwise fun a b => a.val < b.val := by
  rw [ren_mems, List.pairwise_map]
  refine List.pairwise_iff_getElem.2 fun i j hi hj hij => ?_
  show rk ds (mems ds)[i].val < rk ds (mems ds)[j].val
  rw [rk_mem hi, rk_mem hj]
  omega
/-- What the law of FlagOf asks. -/
structure FlgL (ds fs : List D) : Prop where
  sg : mSgOf fs 0 = mMembers ds
  en : mEnum fs 0 = mRenum ds
  co : mCompOf fs 0 = []
theorem flag_law {ds : List D} (hv : vEnum ds = true) : FlgL ds (mBits ds) := by
  have hf := mBits_flag ds
  have hb := mBits_yes hv
  have hr : mRenum ds = rkL idR ds := by unfold mRenum byR; rw [hv, if_pos rfl]
  have he : mEnum (mBits ds) 0 = rkL idR ds := by rw [mEnum_yes hf, hb, bits_enu hv]
  refine ⟨?_, he.trans hr.symm, ?_⟩
  · rw [← (enum_law hf).mem, he]
    have h1 := ren_enum hv
    have e1 : mSort (rkL idR ds) = srt (rkL idR ds) := by unfold mSort; rw [h1, if_pos rfl]
    have e2 : mems (srt (rkL idR ds)) = mems (rkL idR ds) := eq_of_lt _ _ (mems_up (srt_sorted _)) ren_up fun z => by
      rw [mems_iff, mems_iff, ← List.head?_filter, srt_filter, List.head?_filter]
    rw [e1, mMembers_yes (srt_enum h1), e2, ← mMembers_yes h1, ren_names hv]
  · have e : mCompOf (mBits ds) 0 = (mComp (mBits ds)).map (·.name) := if_yes hf
    have hz : mComp (mBits ds) = [] := by
      rw [hb]
      unfold mComp
      rw [List.filter_eq_nil_iff]
      intro x hx
      obtain ⟨d, hd, rfl⟩ := List.mem_map.1 hx
      obtain ⟨r, hr, e⟩ := bits_at hv hd
      unfold isComp
      show ¬ decide (1 < popc (bitR (fidx (isVal d.val) (mems ds))).toNat) = true
      rw [e, bitR_n, Int.toNat_natCast, popc_pow]
      decide
    rw [e, hz]
    rfl
end Go.Proofs.YteaiaglangmhbaaDoor
