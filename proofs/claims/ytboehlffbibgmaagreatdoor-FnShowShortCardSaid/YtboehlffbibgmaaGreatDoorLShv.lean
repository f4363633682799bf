import Derived.Test.YtboehlffbibgmaaGreatDoorBaseQ
import Derived.Test.YtboehlffbibgmaaGreatDoorBaseY
import Derived.Test.YtboehlffbibgmaaGreatDoorLFew
import Derived.Test.YtboehlffbibgmaaGreatDoorLAlg
namespace Go.Proofs.YtboehlffbibgmaaGreatDoor
open Go.RowKit
set_option linter.unusedVariables false

theorem implShowV_v (ds : List D) (b x : Int) (A : Option Addr) (m c : Nat) (w : World) (hr : SD w w.heap.size A m c ds) (hn : m ≤ 1048576) (hT : RT w w.heap.size) {s : ByteArray} (hs : mShowV ds b x = s) :
    Calls Tryz.prog 7 #[.agg #[.slice A m c, .int .i64 b], .int .i64 x] w fun e w' => e = .returned (.string s) ∧ Below w.heap.size w w' := by
  rw [← hs]; exact implShowV_any ds b x A m c w hr hn hT.p10 hT.lp
theorem implShowSh_v (ds : List D) (b x : Int) (A : Option Addr) (m c : Nat) (w : World) (hr : SD w w.heap.size A m c ds) (hn : m ≤ 1048576) (hT : RT w w.heap.size) {s : ByteArray} (hs : mShowSh ds b x = s) :
    Calls Tryz.prog 14 #[.agg #[.slice A m c, .int .i64 b], .int .i64 x] w fun e w' => e = .returned (.string s) ∧ Below w.heap.size w w' := by
  rw [← hs]; exact implShowSh_any ds b x A m c w hr hn hT.p10 hT.lp
theorem specShowV_v (ds : List D) (b x : Int) (A : Option Addr) (m c : Nat) (w : World) (hr : SD w w.heap.size A m c ds) {s : ByteArray} (hs : mShowV ds b x = s) :
    Calls Tryz.prog 8 #[.agg #[.slice A m c, .int .i64 b], .int .i64 x] w fun e w' => e = .returned (.string s) ∧ Below w.heap.size w w' := by
  rw [← hs]; exact specShowV_any ds b x A m c w hr
theorem specShowSh_v (ds : List D) (b x : Int) (A : Option Addr) (m c : Nat) (w : World) (hr : SD w w.heap.size A m c ds) {s : ByteArray} (hs : mShowSh ds b x = s) :
    Calls Tryz.prog 15 #[.agg #[.slice A m c, .int .i64 b], .int .i64 x] w fun e w' => e = .returned (.string s) ∧ Below w.heap.size w w' := by
  rw [← hs]; exact specShowSh_any ds b x A m c w hr

/-! ### texts of values are texts -/
theorem rd_empty {ds : List D} {b : Int} (hv : vFlag ds b = true) : rdV ds b ⟨#[]⟩ = -1 := by
  have hp : partV ds ⟨#[]⟩ = -1 := by
    rcases fidx_cases (isNm (⟨#[]⟩ : ByteArray)) ds with ⟨hx, _⟩ | ⟨k, hk, _, hp, _⟩
    · rw [partV_num (by omega)]
      rfl
    · have e : ds[k].name = ⟨#[]⟩ := isNm_iff.1 hp
      exact absurd (by rw [e]) (fname_pos hv (List.getElem_mem hk))
  refine rdV_none ?_
  show rdTo ds [(⟨#[]⟩ : ByteArray)] 0 = none
  rw [rdTo, hp, if_neg (by omega)]
theorem text_size {ds l : List D} {b : Int} (hv : vFlag ds b = true) (hl : ∀ d ∈ l, d ∈ ds) (hn : l.length ≤ 20) {a : Nat} (ha : a < 4096) : (mText ds l a).size ≤ 1000 := by
  have h8 : ∀ s ∈ l.map (·.name) ++ restW (nl a (mMask l)), s.size ≤ 8 := fun s hs => by
    rcases List.mem_append.1 hs with hs | hs
    · exact sub_size hv hl s hs
    · unfold restW at hs
      split at hs
      · cases hs
      · rw [List.mem_singleton.1 hs]
        have := nl_lt (b := mMask l) ha
        exact decB_size 7 _ (by omega)
  have hlen : (l.map (·.name) ++ restW (nl a (mMask l))).length ≤ 21 := by
    rw [List.length_append, List.length_map]
    have : (restW (nl a (mMask l))).length ≤ 1 := by unfold restW; split <;> simp
    omega
  unfold mText textW
  split
  · rcases fidx_cases (isVal 0) ds with ⟨hx, _⟩ | ⟨k, hk, hx, _, _⟩
    · rw [zeroT_no (by omega)]; decide
    · rw [zeroT_yes hk hx]
      have := flag_name6 hv (List.getElem_mem hk)
      omega
  · have h := joinW_size (sep := bar) h8 _ (Nat.le_refl _)
    rw [List.take_of_length_le (Nat.le_refl _)] at h
    have h2 : bar.size = 1 := rfl
    rw [h2] at h
    have h3 : (8 + 1) * (l.map (·.name) ++ restW (nl a (mMask l))).length ≤ 9 * 21 := Nat.mul_le_mul_left 9 hlen
    exact Nat.le_trans h (by omega)
theorem showV_size {ds : List D} {b x : Int} (h : mIsV ds b x = true) : (mShowV ds b x).size ≤ 1000 := by
  obtain ⟨p, rfl, hp⟩ := mIsV_nat h
  unfold mShowV
  rw [if_pos h, Int.toNat_natCast]
  exact text_size (mIsV_flag h) (fun d hd => mIn_in hd) (by have := mIn_len ds p; omega) hp
theorem showSh_size {ds : List D} {b x : Int} (h : mIsV ds b x = true) : (mShowSh ds b x).size ≤ 1000 := by
  obtain ⟨p, rfl, hp⟩ := mIsV_nat h
  unfold mShowSh
  rw [if_pos h, Int.toNat_natCast]
  refine text_size (mIsV_flag h) (fun d hd => mShort_in hd) ?_ hp
  have := (mShortL_mem (mFit ds p)).1
  have := mFit_len ds p
  have := vFlag_len (mIsV_flag h)
  omega
structure ShvL (ds : List D) (b x : Int) (s : ByteArray) : Prop where
  ne : s.toList.isEmpty = false
  size : s.size ≤ 1000
  rd : mRead ds b s = x
  ok : mReadOk ds b s = true
theorem back_ne {ds : List D} {b : Int} {p : Nat} {s : ByteArray} (hv : vFlag ds b = true) (h : rdV ds b s = p) : s.toList.isEmpty = false := by
  cases e : s.toList with
  | cons x r => rfl
  | nil =>
    rw [Go.ByteArray.toList_eq] at e
    have e2 : s = ⟨#[]⟩ := ByteArray.ext (Array.toList_inj.1 e)
    rw [e2, rd_empty hv] at h
    omega
theorem shv_law {ds : List D} {b x : Int} (h : mIsV ds b x = true) : ShvL ds b x (mShowV ds b x) := by
  have hs := showV_size h
  obtain ⟨p, rfl, hp⟩ := mIsV_nat h
  have hr := read_show h
  exact ⟨back_ne (mIsV_flag h) hr, hs, (read_ok (mIsV_flag h) hr).1, (read_ok (mIsV_flag h) hr).2⟩
theorem shsh_law {ds : List D} {b x : Int} (h : mIsV ds b x = true) : ShvL ds b x (mShowSh ds b x) := by
  have hs := showSh_size h
  obtain ⟨p, rfl, hp⟩ := mIsV_nat h
  have hr := read_short h
  exact ⟨back_ne (mIsV_flag h) hr, hs, (read_ok (mIsV_flag h) hr).1, (read_ok (mIsV_flag h) hr).2⟩

/-! ### fewest names are no more than the single ones, where these leave nothing -/
theorem popc_or_le (p q : Nat) : popc (p ||| q) ≤ popc p + popc q := by have := popc_or_and p q; omega
theorem popc_mask_le : ∀ (l : List D), (∀ d ∈ l, popc d.val.toNat ≤ 1) → popc (mMask l) ≤ l.length
  | [], _ => by rw [mMask_nil, popc_zero]; exact Nat.le_refl _
  | d :: l, h => by
    have h1 := popc_mask_le l (fun x hx => h x (List.mem_cons_of_mem _ hx))
    have h2 := h d (List.mem_cons_self ..)
    have e : mMask (d :: l) = d.val.toNat ||| mMask l := by
      rw [show d :: l = [d] ++ l from rfl, mMask_app]
      congr 1
      show 0 ||| d.val.toNat = _
      rw [Nat.zero_or]
    have h3 := popc_or_le d.val.toNat (mMask l)
    rw [e, List.length_cons]
    omega
theorem popc_pow1 (i : Nat) : popc (2 ^ i) ≤ 1 := by
  induction i with
  | zero =>
    show popc 1 ≤ 1
    rw [popc_pos (by decide), show 1 / 2 = 0 from rfl, popc_zero]
    decide
  | succ i ih =>
    rw [popc_pos (Nat.two_pow_pos _), Nat.pow_succ, Nat.mul_mod_left, Nat.mul_div_cancel _ (by decide)]
    omega
theorem in_rest {ds : List D} {p : Nat} (h0 : nl p (mMask (mSg ds)) = 0) : nl p (mMask (mIn ds p)) = 0 := by
  rw [nl_zero]
  intro i hi
  have h1 := nl_zero.1 h0 i hi
  rw [mMask_tb, List.any_eq_true] at h1 ⊢
  obtain ⟨d, hd, hb⟩ := h1
  refine ⟨d, List.mem_filter.2 ⟨hd, ?_⟩, hb⟩
  obtain ⟨_, j, _, e⟩ := sgTo_in hd
  unfold fitIn
  rw [decide_eq_true_iff, nl_zero]
  intro q hq
  rw [e, Int.toNat_natCast, pow_tb, decide_eq_true_iff] at hb hq
  subst hb hq
  exact hi
theorem short_le_in {ds : List D} {b : Int} {p : Nat} (hv : mIsV ds b (p : Int) = true) (h00 : nl p (mMask (mSg ds)) = 0) : (mShortN ds b (p : Int)).length ≤ (mNamesIn ds b (p : Int)).length := by
  have h0 := in_rest h00
  unfold mShortN mNamesIn
  rw [if_pos hv, if_pos hv, Int.toNat_natCast, List.length_map, List.length_map]
  have h1 := short_count (mFit ds p)
  have h2 : popc (mMask (mFit ds p)) ≤ popc p := popc_mono2 (mask_part fun d hd => (List.mem_filter.1 (List.mem_filter.1 hd).1).2)
  have h3 : popc p ≤ popc (mMask (mIn ds p)) := popc_mono2 h0
  have h4 := popc_mask_le (mIn ds p) (fun d hd => by
    obtain ⟨_, i, _, e⟩ := sgTo_in (List.mem_filter.1 hd).1
    rw [e, Int.toNat_natCast]
    exact popc_pow1 i)
  omega
end Go.Proofs.YtboehlffbibgmaaGreatDoor
