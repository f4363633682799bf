import Derived.Test.YtkholjcmaebaaaaConvV
import Derived.Test.YtkholjcmaebaaaaLAlgR
import Derived.Test.YtkholjcmaebaaaaLAlgT
namespace Go.Proofs.Ytkholjcmaebaaaa
open Go.RowKit Go.Maps
set_option linter.unusedVariables false
set_option maxRecDepth 100000

/-! ### what the laws of converted values ask -/
theorem from_isv {ds : List D} {b : Int} {ss : List ByteArray} (h : mFromOk ds b ss = true) : mFrom ds b ss = ((fromTo ds ss : Nat) : Int) ∧ mIsV ds b ((fromTo ds ss : Nat) : Int) = true := by
  refine ⟨by unfold mFrom; rw [h, if_pos rfl], ?_⟩
  unfold mFromOk at h
  rw [Bool.and_eq_true] at h
  exact mIsV_of h.1 (fromTo_lt (vFlag_in h.1) ss) (.inr (fromTo_part h.2))
theorem cv_value {ds : List D} {b x : Int} (h : cvRest ds b x = true) : ∃ p : Nat, x = (p : Int) ∧ p < 4096 ∧ mIsV ds b (p : Int) = true ∧ nl p (mMask (mSg ds)) = 0 ∧ mNamesIn ds b (p : Int) = (mIn ds p).map (·.name) := by
  unfold cvRest at h
  rw [decide_eq_true_eq] at h
  have hv : mIsV ds b x = true := by
    cases e : mIsV ds b x
    · unfold mRestIn at h; rw [e] at h; simp at h
    · rfl
  obtain ⟨p, rfl, hp⟩ := mIsV_nat hv
  refine ⟨p, rfl, hp, hv, ?_, by unfold mNamesIn; rw [hv, if_pos rfl, Int.toNat_natCast]⟩
  unfold mRestIn at h
  rw [hv, if_pos rfl, Int.toNat_natCast] at h
  omega
theorem cv_rest {ds : List D} {b : Int} {p : Nat} (hv : mIsV ds b (p : Int) = true) (h : nl p (mMask (mSg ds)) = 0) : cvRest ds b (p : Int) = true := by
  unfold cvRest
  rw [rest_is hv h]; rfl
structure CvL (ds es : List D) (b e x r : Int) (ns : List ByteArray) : Prop where
  names : mNamesIn ds b x = ns
  from_ : mFrom es e ns = r
  fromOk : mFromOk es e ns = true
  self : mConv ds b ds b x = x
  selfOk : cvOk ds b ds b x = true
  isv : mIsV es e r = true
theorem cv_law {ds es : List D} {b e x : Int} (h : cvOk ds b es e x = true) : CvL ds es b e x (mConv ds b es e x) (mNamesIn ds b x) := by
  have h0 := h
  unfold cvOk at h0
  rw [Bool.and_eq_true] at h0
  obtain ⟨hr, hf⟩ := h0
  obtain ⟨p, rfl, hp, hv, hz, hn⟩ := cv_value hr
  have hc := (cv_yes (es := es) (e := e) hr).2
  have hfl := mIsV_flag hv
  obtain ⟨h1, h2⟩ := from_names hfl (mIn ds p) (fun d hd => (sgTo_in (mWithin_mem hd)).1)
  have h3 := in_rest ds p
  refine ⟨rfl, hc.symm, hf, ?_, ?_, ?_⟩
  · rw [(cv_yes (es := ds) (e := b) hr).2, hn, h1]; omega
  · rw [(cv_yes (es := ds) (e := b) hr).1, hn, h2]
  · rw [hc, (from_isv hf).1]; exact (from_isv hf).2
end Go.Proofs.Ytkholjcmaebaaaa
