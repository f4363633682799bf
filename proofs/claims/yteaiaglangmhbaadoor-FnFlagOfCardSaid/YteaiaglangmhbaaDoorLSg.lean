import Derived.Test.YteaiaglangmhbaaDoorLAlgR
import Derived.Test.YteaiaglangmhbaaDoorLAlgT
import Derived.Test.YteaiaglangmhbaaDoorLKept
namespace Go.Proofs.YteaiaglangmhbaaDoor
open Go.RowKit Go.Maps
set_option linter.unusedVariables false
set_option maxRecDepth 100000

/-! ### plain facts on names of one bit and of several -/
theorem from_one {ds : List D} {b : Int} (hv : vFlag ds b = true) {d : D} (hd : d ∈ ds) : mFrom ds b [d.name] = ((d.val.toNat : Nat) : Int) ∧ mFromOk ds b [d.name] = true := by
  obtain ⟨h1, h2⟩ := from_names hv [d] (fun e he => by rw [List.mem_singleton.1 he]; exact hd)
  have e : mMask [d] = d.val.toNat := by simp [mMask]
  rw [e] at h1
  exact ⟨h1, h2⟩
theorem part_one {ds : List D} {d : D} (hd : d ∈ ds) : nl d.val.toNat (mMask ds) = 0 := by
  rw [nl_zero]; intro i hi
  rw [mMask_tb, List.any_eq_true]
  exact ⟨d, hd, hi⟩
theorem isV_one {ds : List D} {b : Int} (hv : vFlag ds b = true) {d : D} (hd : d ∈ ds) : d.val.toNat < 4096 ∧ mIsV ds b ((d.val.toNat : Nat) : Int) = true := by
  have h := vFlag_in hv d hd
  unfold inR at h
  have hl : d.val.toNat < 4096 := by omega
  exact ⟨hl, mIsV_of hv hl (.inr (part_one hd))⟩
theorem count_one {ds : List D} {b : Int} (hv : vFlag ds b = true) {d : D} (hd : d ∈ ds) : mCount ds b ((d.val.toNat : Nat) : Int) = ((popc d.val.toNat : Nat) : Int) := by
  unfold mCount
  rw [(isV_one hv hd).2, if_pos rfl, Int.toNat_natCast]
theorem sgTo_up (ds : List D) (k : Nat) : (sgTo ds k).Pairwise (fun x y => x.val.toNat < y.val.toNat) := by
  induction k with
  | zero => exact List.Pairwise.nil
  | succ k ih =>
    unfold sgTo
    rw [List.pairwise_append]
    refine ⟨ih, ?_, ?_⟩
    · have := sgAt_len ds k
      match h : sgAt ds k with
      | [] => exact List.Pairwise.nil
      | [a] => simp
      | a :: c :: r => rw [h] at this; simp at this
    · intro x hx y hy
      obtain ⟨_, i, hi, e⟩ := sgTo_in hx
      obtain ⟨_, e2⟩ := sgAt_in hy
      rw [e, e2, Int.toNat_natCast, Int.toNat_natCast]
      exact Nat.pow_lt_pow_right (by decide) hi
/-- What is so of the names of one bit. -/
structure SgL (ds : List D) (b : Int) (ss : List ByteArray) (gv : List Nat) : Prop where
  len : gv.length = ss.length
  at_ : ∀ k (h : k < ss.length) (h' : k < gv.length), gv[k] < 4096 ∧ 0 < gv[k] ∧ mFrom ds b [ss[k]] = (gv[k] : Int) ∧ mFromOk ds b [ss[k]] = true ∧ mCount ds b (gv[k] : Int) = 1
  up : ∀ k (h : k + 1 < gv.length), gv[k] < gv[k + 1]
  all : mNamesIn ds b ((mMask ds : Nat) : Int) = ss
theorem sg_law {ds : List D} {b : Int} (hv : vFlag ds b = true) : SgL ds b (mSgOf ds b) ((mSg ds).map fun d => d.val.toNat) := by
  have e : mSgOf ds b = (mSg ds).map (·.name) := if_yes hv
  rw [e]
  refine ⟨by rw [List.length_map, List.length_map], ?_, ?_, ?_⟩
  · intro k h h'
    rw [List.getElem_map, List.getElem_map]
    have hk : k < (mSg ds).length := by simpa using h
    have hm := List.getElem_mem hk
    generalize (mSg ds)[k] = d at *
    obtain ⟨h1, i, hi, e⟩ := sgTo_in hm
    have e2 : d.val.toNat = 2 ^ i := by rw [e, Int.toNat_natCast]
    refine ⟨(isV_one hv h1).1, by rw [e2]; exact Nat.two_pow_pos _, (from_one hv h1).1, (from_one hv h1).2, ?_⟩
    rw [count_one hv h1, e2, popc_pow]; rfl
  · intro k h
    rw [List.getElem_map, List.getElem_map]
    have := List.pairwise_iff_getElem.1 (sgTo_up ds 12) k (k + 1) (by have : k + 1 < (mSg ds).length := (by simpa using h); unfold mSg at this; omega) (by have : k + 1 < (mSg ds).length := (by simpa using h); unfold mSg at this; omega) (by omega)
    exact this
  · unfold mNamesIn
    rw [v_mask hv, if_pos rfl, Int.toNat_natCast]
    congr 1
    unfold mIn mWithin
    rw [List.filter_eq_self]
    intro d hd
    unfold fitIn
    exact decide_eq_true (part_one (sgTo_in hd).1)
/-- Definitions of one bit at most as many as single names. -/
theorem sg_few (ds : List D) (k : Nat) : (sgTo ds k).length ≤ ds.countP fun d => (List.range k).any fun i => decide (d.val = ((2 ^ i : Nat) : Int)) := by
  induction k with
  | zero => exact Nat.zero_le _
  | succ k ih =>
    have h1 : (ds.countP fun d => (List.range (k + 1)).any fun i => decide (d.val = ((2 ^ i : Nat) : Int))) = (ds.countP fun d => (List.range k).any fun i => decide (d.val = ((2 ^ i : Nat) : Int))) + ds.countP (isVal ((2 ^ k : Nat) : Int)) := by
      clear ih
      induction ds with
      | nil => rfl
      | cons d r ih =>
        rw [List.countP_cons, List.countP_cons, List.countP_cons, ih, List.range_succ, List.any_append]
        have e3 : ([k].any fun i => decide (d.val = ((2 ^ i : Nat) : Int))) = isVal ((2 ^ k : Nat) : Int) d := by
          simp [isVal]
          first | done | exact (beq_eq_decide ..).symm | rfl
        rw [e3]
        cases hk : isVal ((2 ^ k : Nat) : Int) d
        · simp; omega
        · have hno : ((List.range k).any fun i => decide (d.val = ((2 ^ i : Nat) : Int))) = false := by
            rw [List.any_eq_false]
            intro i hi h
            have hv : d.val = ((2 ^ k : Nat) : Int) := by unfold isVal at hk; simpa using hk
            have h2 : d.val = ((2 ^ i : Nat) : Int) := by simpa using h
            have h3 : 2 ^ i < 2 ^ k := Nat.pow_lt_pow_right (by decide) (List.mem_range.1 hi)
            omega
          rw [hno]; simp; omega
    rw [h1]
    unfold sgTo
    rw [List.length_append]
    have h2 : (sgAt ds k).length ≤ ds.countP (isVal ((2 ^ k : Nat) : Int)) := by
      unfold sgAt
      cases hf : ds.find? (isVal ((2 ^ k : Nat) : Int)) with
      | none => exact Nat.zero_le _
      | some d =>
        have : 0 < ds.countP (isVal ((2 ^ k : Nat) : Int)) := List.countP_pos_iff.2 ⟨d, List.mem_of_find?_eq_some hf, List.find?_some hf⟩
        simpa using this
    omega
theorem sg_comp_len (ds : List D) : (mComp ds).length + (mSg ds).length ≤ ds.length := by
  have h1 := sg_few ds 12
  have h2 : (mComp ds).length = ds.countP isComp := by unfold mComp; exact List.countP_eq_length_filter.symm
  have h3 : ds.countP isComp + (ds.countP fun d => (List.range 12).any fun i => decide (d.val = ((2 ^ i : Nat) : Int))) ≤ ds.length := by
    clear h1 h2
    induction ds with
    | nil => exact Nat.le_refl _
    | cons d r ih =>
      rw [List.countP_cons, List.countP_cons, List.length_cons]
      cases hc : isComp d
      · rw [if_neg (by decide)]; split <;> omega
      · have hno : ((List.range 12).any fun i => decide (d.val = ((2 ^ i : Nat) : Int))) = false := by
          rw [List.any_eq_false]
          intro i hi h
          have h2 : d.val = ((2 ^ i : Nat) : Int) := by simpa using h
          unfold isComp at hc
          rw [h2, Int.toNat_natCast, popc_pow] at hc
          simp at hc
        rw [hno, if_pos rfl, if_neg (by decide)]; omega
  unfold mSg
  omega
/-- What is so of the names of several bits. -/
structure CompL (ds : List D) (b : Int) (ss sg : List ByteArray) (gv : List Nat) : Prop where
  len : gv.length = ss.length
  at_ : ∀ k (h : k < ss.length) (h' : k < gv.length), gv[k] < 4096 ∧ mFrom ds b [ss[k]] = (gv[k] : Int) ∧ mFromOk ds b [ss[k]] = true ∧ (∃ q : Nat, 2 ≤ q ∧ q ≤ 4096 ∧ mCount ds b (gv[k] : Int) = (q : Int)) ∧ sg.any (hT ss[k]) = false
  few : ss.length + sg.length ≤ ds.length
theorem comp_law {ds : List D} {b : Int} (hv : vFlag ds b = true) : CompL ds b (mCompOf ds b) (mSgOf ds b) ((mComp ds).map fun d => d.val.toNat) := by
  have e : mSgOf ds b = (mSg ds).map (·.name) := if_yes hv
  have e2 : mCompOf ds b = (mComp ds).map (·.name) := if_yes hv
  rw [e, e2]
  refine ⟨by rw [List.length_map, List.length_map], ?_, ?_⟩
  · intro k h h'
    rw [List.getElem_map, List.getElem_map]
    have hk : k < (mComp ds).length := by simpa using h
    have hm := List.getElem_mem hk
    generalize (mComp ds)[k] = d at *
    obtain ⟨h1, h2⟩ := List.mem_filter.1 hm
    unfold isComp at h2
    have h3 : 1 < popc d.val.toNat := by simpa using h2
    have h4 := popc_le d.val.toNat
    have h5 := (isV_one hv h1).1
    refine ⟨h5, (from_one hv h1).1, (from_one hv h1).2, ⟨popc d.val.toNat, by omega, by omega, count_one hv h1⟩, ?_⟩
    rw [List.any_eq_false]
    intro s hs hss
    obtain ⟨x, hx, rfl⟩ := List.mem_map.1 hs
    obtain ⟨hx1, i, _, hx2⟩ := sgTo_in hx
    have := nm_one hv hx1 h1 (hT_iff.1 hss)
    subst this
    rw [hx2, Int.toNat_natCast, popc_pow] at h3
    omega
  · have := sg_comp_len ds
    rw [List.length_map, List.length_map]; exact this
/-- One text of a list. -/
theorem ss_sub {w : World} {B b o n c k : Nat} {ss : List ByteArray} (h : SS w B (some ⟨b, o, none⟩) n c ss) (hk : k < ss.length) : SS w B (some ⟨b, o + k, none⟩) 1 (c - k) ((ss.drop k).take 1) := by
  have hl := h.len
  have hc := h.cap
  refine ⟨?_, by rw [List.length_take, List.length_drop]; omega, by omega, by have := h.max; omega, fun s hs => h.ok s (List.mem_of_mem_drop (List.mem_of_mem_take hs))⟩
  rcases h.rd with rfl | ⟨b', o', hA, hb, hcl⟩
  · exact .inl (by simp)
  · cases hA
    refine .inr ⟨b, o + k, rfl, hb, fun i x hi j v hj => ?_⟩
    rw [List.getElem?_take] at hi
    split at hi
    · rw [List.getElem?_drop] at hi
      have := hcl (k + i) x hi j v hj
      rw [show o + k + i * 1 + j = o + (k + i) * 1 + j by omega]
      exact this
    · cases hi
end Go.Proofs.YteaiaglangmhbaaDoor
