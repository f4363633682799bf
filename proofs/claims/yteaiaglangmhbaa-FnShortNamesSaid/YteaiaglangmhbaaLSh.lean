import Derived.Test.YteaiaglangmhbaaLFew
import Derived.Test.YteaiaglangmhbaaBaseB
import Derived.Test.YteaiaglangmhbaaEdit2
namespace Go.Proofs.Yteaiaglangmhbaa
open Go.RowKit Go.Maps
set_option linter.unusedVariables false
set_option maxRecDepth 100000

structure ShL (ds : List D) (b : Int) (p : Nat) (ss fs : List ByteArray) (w : Nat) : Prop where
  one : mFrom ds b ss = (w : Int) ∧ mFromOk ds b ss = true
  two : mFrom ds b fs = (w : Int) ∧ mFromOk ds b fs = true
  few : ∀ k, k < ss.length → ∃ x : Nat, mFrom ds b (ss.take k ++ ss.drop (k + 1)) = (x : Int) ∧ mFromOk ds b (ss.take k ++ ss.drop (k + 1)) = true ∧ ((x : Int) == (w : Int)) = false
  cnt : (ss.length : Int) ≤ ((popc p : Nat) : Int)
theorem sh_law {ds : List D} {b : Int} {p : Nat} (hv : mIsV ds b (p : Int) = true) : ∃ w, ShL ds b p (mShortN ds b (p : Int)) (mFitN ds b (p : Int)) w := by
  have hfl := mIsV_flag hv
  have hfit : ∀ d ∈ mFit ds p, fitIn p d = true := fun d hd => (List.mem_filter.1 (List.mem_filter.1 hd).1).2
  have hsub : ∀ d ∈ mFit ds p, d ∈ ds := fun d hd => mFit_mem hd
  have he1 : mShortN ds b (p : Int) = (mShortL (mFit ds p)).map (·.name) := by unfold mShortN; rw [hv, if_pos rfl, Int.toNat_natCast]
  have he2 : mFitN ds b (p : Int) = (mFit ds p).map (·.name) := by unfold mFitN; rw [hv, if_pos rfl, Int.toNat_natCast]
  rw [he1, he2]
  have hmm : mMask (mShortL (mFit ds p)) = mMask (mFit ds p) := short_mask _
  have hMs : ∀ d ∈ mShortL (mFit ds p), d ∈ ds := fun d hd => hsub d ((mShortL_mem _).2 d hd)
  refine ⟨mMask (mFit ds p), ?_, from_names hfl _ hsub, ?_, ?_⟩
  · have := from_names hfl _ hMs
    rw [hmm] at this
    exact this
  · intro k hk
    rw [List.length_map] at hk
    have hE : ((mShortL (mFit ds p)).map (·.name)).take k ++ ((mShortL (mFit ds p)).map (·.name)).drop (k + 1) = ((mShortL (mFit ds p)).eraseIdx k).map (·.name) := by
      rw [List.eraseIdx_eq_take_drop_succ, List.map_append, List.map_take, List.map_drop]
    rw [hE]
    obtain ⟨h1, h2⟩ := from_names hfl ((mShortL (mFit ds p)).eraseIdx k) (fun d hd => hMs d (List.mem_of_mem_eraseIdx hd))
    refine ⟨_, h1, h2, ?_⟩
    rw [beq_eq_false_iff_ne]
    have := short_erase (mFit ds p) k hk
    omega
  · rw [List.length_map]
    have h1 := short_count (mFit ds p)
    have h2 : popc (mMask (mFit ds p)) ≤ popc p := popc_mono2 (by
      rw [nl_zero]
      intro i hi
      rw [mMask_tb, List.any_eq_true] at hi
      obtain ⟨d, hd, hb⟩ := hi
      have := hfit d hd
      unfold fitIn at this
      exact nl_zero.1 (of_decide_eq_true this) i hb)
    omega
/-! ### parts of a list of texts -/
theorem SS.drop_ {w : World} {B n c : Nat} {A : Option Addr} {ss : List ByteArray} (h : SS w B A n c ss) (k : Nat) (hk : k ≤ n) :
    SS w B (if c = k then A else A.map (·.add (k * 1))) (n - k) (c - k) (ss.drop k) := by
  have hl := h.len
  have hcp := h.cap
  refine ⟨?_, by simp; omega, by omega, by have := h.max; omega, fun d hd => h.ok d (List.mem_of_mem_drop hd)⟩
  by_cases hc : c = k
  · have : ss.drop k = [] := List.drop_eq_nil_of_le (by omega)
    rw [this]; exact .inl rfl
  · rw [if_neg hc]
    rcases h.rd with rfl | ⟨b, o, rfl, hb, hcell⟩
    · exact .inl (by simp)
    · refine .inr ⟨b, o + k * 1, ?_, hb, fun i x hi j v hj => ?_⟩
      · show some ((⟨b, o, none⟩ : Addr).add (k * 1)) = _
        congr 1
        unfold Addr.add; split <;> simp_all
      · rw [List.getElem?_drop] at hi
        have := hcell (k + i) x hi j v hj
        rw [show o + (k + i) * 1 + j = o + k * 1 + i * 1 + j by omega] at this
        exact this
theorem SS.takeK {w : World} {B n c k : Nat} {A : Option Addr} {ss : List ByteArray} (h : SS w B A n c ss) (hk : k ≤ n) : SS w B A k c (ss.take k) :=
  ⟨Rd.take_ h.rd k, by rw [List.length_take, h.len]; omega, by have := h.cap; omega, h.max, fun s hs => h.ok s (List.mem_of_mem_take hs)⟩
theorem runS_from {w : World} {B n c : Nat} {A : Option Addr} {ss : List ByteArray} (h : SS w B A n c ss) (k : Nat) (hk : k ≤ n) :
    ∃ A2, (∀ W : World, (Instr.slice 26 (.slice A n c) (some (.int .i64 (k : Int))) none none).run Try.prog W = .ok (.slice A2 (n - k) (c - k)) W) ∧ SS w B A2 (n - k) (c - k) (ss.drop k) := by
  refine ⟨if c = k then A else A.map (·.add (k * 1)), fun W => ?_, h.drop_ k hk⟩
  have hi : (k : Int) ≤ (n : Int) := by omega
  have h0 : (0 : Int) ≤ (k : Int) := by omega
  rw [run_slice_l (P := Try.prog) W 26 A n c (by kernel_rfl) .i64 (k : Int) h0 hi]
  have hs : (sizeOf (Try.prog.elem 26)).run Try.prog W = .ok 1 W := by kernel_rfl
  rw [hs]
  simp [Result.andThen, sliced]
theorem runS_to (A : Option Addr) (n c k : Nat) (hk : k ≤ c) (W : World) :
    (Instr.slice 26 (.slice A n c) none (some (.int .i64 (k : Int))) none).run Try.prog W = .ok (.slice A k c) W := by
  have hi : (k : Int) ≤ (c : Int) := by omega
  have h0 : (0 : Int) ≤ (k : Int) := by omega
  rw [run_slice_h (P := Try.prog) W 26 A n c (by kernel_rfl) .i64 (k : Int) h0 hi]
  have hs : (sizeOf (Try.prog.elem 26)).run Try.prog W = .ok 1 W := by kernel_rfl
  rw [hs]
  cases A <;> simp [Result.andThen, sliced, Addr.add]
theorem flatS_fm (ss : List ByteArray) : flatS ss = ss.flatMap encS := by
  induction ss with
  | nil => rfl
  | cons s r ih => show Value.string s :: flatS r = _; rw [ih]; rfl
theorem SS.srcS {w : World} {B n c : Nat} {A : Option Addr} {ss : List ByteArray} (h : SS w B A n c ss) : Src w 1 A n (flatS ss) := by
  rw [flatS_fm]
  exact (show SL encS 1 w B A n c ss from ⟨h.rd, h.len, h.cap, h.max⟩).src (fun _ => rfl)
theorem one_S (xs : List ByteArray) : ∀ u ∈ flatS xs, u.oneCell' = true := by
  intro u hu
  obtain ⟨s, _, rfl⟩ := List.mem_map.1 hu
  rfl
end Go.Proofs.Yteaiaglangmhbaa
