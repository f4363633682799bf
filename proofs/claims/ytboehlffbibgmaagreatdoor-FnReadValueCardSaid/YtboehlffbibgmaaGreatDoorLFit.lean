import Derived.Test.YtboehlffbibgmaaGreatDoorFitP
import Derived.Test.YtboehlffbibgmaaGreatDoorLAlgN
import Derived.Test.YtboehlffbibgmaaGreatDoorLAlgT
import Derived.Test.YtboehlffbibgmaaGreatDoorLArm
import Derived.Test.YtboehlffbibgmaaGreatDoorLHelp
namespace Go.Proofs.YtboehlffbibgmaaGreatDoor
open Go.RowKit Go.Maps
set_option linter.unusedVariables false
set_option maxRecDepth 100000

/-! ### what the law of fitting names asks -/
theorem fit_one {ds : List D} {b : Int} {d : D} {p : Nat} (hv : mIsV ds b (p : Int) = true) (hd : d ∈ mFit ds p) : ∃ t : Nat, mFrom ds b [d.name] = (t : Int) ∧ mFromOk ds b [d.name] = true ∧ ((t : Int) == 0) = false ∧ mHas ds b (p : Int) (t : Int) = true := by
  obtain ⟨h1, h2⟩ := List.mem_filter.1 hd
  obtain ⟨hds, hfit⟩ := List.mem_filter.1 h1
  have hfl := mIsV_flag hv
  have hin := vFlag_in hfl d hds
  have hsub : ∀ x ∈ [d], x ∈ ds := fun x hx => by rw [List.mem_singleton.1 hx]; exact hds
  obtain ⟨e1, e2⟩ := from_names hfl [d] hsub
  have hm : mMask [d] = d.val.toNat := by unfold mMask; rw [List.foldl_cons, List.foldl_nil, Nat.zero_or]
  rw [hm] at e1
  refine ⟨d.val.toNat, e1, e2, ?_, ?_⟩
  · rw [beq_eq_false_iff_ne]
    unfold hasV at h2
    have := of_decide_eq_true h2
    have := hin.1
    omega
  · have hp := part_mask hsub
    rw [hm] at hp
    unfold fitIn at hfit
    unfold mHas mTwo
    rw [hv, v_part hfl hp, Int.toNat_natCast, Int.toNat_natCast, hfit]
    rfl
theorem fit_sub {ds : List D} {b x : Int} {s : ByteArray} (h : s ∈ mNamesIn ds b x) : (mFitN ds b x).any (hT s) = true := by
  unfold mNamesIn at h
  unfold mFitN
  cases hv : mIsV ds b x
  · rw [hv] at h; cases h
  · rw [hv, if_pos rfl] at h
    rw [if_pos rfl]
    obtain ⟨d, hd, rfl⟩ := List.mem_map.1 h
    obtain ⟨h1, h2⟩ := List.mem_filter.1 hd
    rw [List.any_eq_true]
    refine ⟨d.name, List.mem_map.2 ⟨d, List.mem_filter.2 ⟨List.mem_filter.2 ⟨(sgTo_in h1).1, h2⟩, ?_⟩, rfl⟩, hT_iff.2 rfl⟩
    obtain ⟨i, _, e⟩ := sg_pow h1
    unfold hasV
    refine decide_eq_true (fun h0 => ?_)
    rw [h0] at e
    have := Nat.two_pow_pos i
    simp at e
    omega
theorem fitN_le (ds : List D) (b x : Int) : (mFitN ds b x).length ≤ ds.length := by
  unfold mFitN
  cases hv : mIsV ds b x
  · exact Nat.zero_le _
  · show ((mFit ds x.toNat).map _).length ≤ _
    rw [List.length_map]; exact mFit_len _ _
/-- Each of them alone. -/
theorem fit_at {ds : List D} {b : Int} {p : Nat} (hv : mIsV ds b (p : Int) = true) (k : Nat) (hk : k < (mFitN ds b (p : Int)).length) : ∃ t : Nat, mFrom ds b [(mFitN ds b (p : Int))[k]] = (t : Int) ∧ mFromOk ds b [(mFitN ds b (p : Int))[k]] = true ∧ ((t : Int) == 0) = false ∧ mHas ds b (p : Int) (t : Int) = true := by
  have hm : (mFitN ds b (p : Int))[k] ∈ mFitN ds b (p : Int) := List.getElem_mem hk
  have he : mFitN ds b (p : Int) = (mFit ds p).map (·.name) := by unfold mFitN; rw [hv, if_pos rfl, Int.toNat_natCast]
  generalize (mFitN ds b (p : Int))[k] = s at hm
  rw [he] at hm
  obtain ⟨d, hd, rfl⟩ := List.mem_map.1 hm
  exact fit_one hv hd
end Go.Proofs.YtboehlffbibgmaaGreatDoor
