import Derived.Test.YtpmanbmhbfnefaaTabQ
import Derived.Test.YtpmanbmhbfnefaaConvN
namespace Go.Proofs.Ytpmanbmhbfnefaa
open Go.RowKit Go.Maps
set_option linter.unusedVariables false
set_option maxRecDepth 100000

/-- What the law of tables asks: each definition is looked up, and the table is as long as there are members. -/
theorem tab_law {ds L : List D} (h : mTabOk ds L = true) :
    (mTab ds L).length = (mMembers ds).length ∧ ∀ k (hk : k < L.length), mLook ds (mTab ds L) L[k].name = L[k].val ∧ lkOk ds (mTab ds L) L[k].name = true := by
  have h0 := h
  unfold mTabOk at h0
  simp only [Bool.and_eq_true, decide_eq_true_eq] at h0
  obtain ⟨⟨⟨hv, ht⟩, hl⟩, _⟩ := h0
  have hm : mTab ds L = numL ds L (mems ds).length L.length := mTab_yes h
  have htn : tabN ds (mTab ds L) = true := by rw [hm, ← tab_end hv ht hl]; exact h
  have hlen : (mTab ds L).length = (mems ds).length := tabN_len htn
  refine ⟨by rw [hlen]; unfold mMembers; rw [hv, if_pos rfl, List.length_map], fun k hk => ?_⟩
  have hg := tTo_all ht k hk
  rw [tGood_at hk, Bool.and_eq_true, decide_eq_true_iff] at hg
  have hlk : lkOk ds (mTab ds L) L[k].name = true := by unfold lkOk; rw [htn, decide_eq_true hg.1]; rfl
  refine ⟨?_, hlk⟩
  rcases fidx_cases (isNm L[k].name) ds with ⟨h2, _⟩ | ⟨j, hj, hx, _, _⟩
  · exact absurd hg.1 (by omega)
  · obtain ⟨r, _, hr, he⟩ := rk_in hv hj
    have hrk : rkN ds L[k].name = r := by unfold rkN; rw [valI_at hj hx, he, Int.toNat_natCast]
    have hrs : r < (mTab ds L).length := by omega
    have hn := numF_at L.length (Nat.le_refl _) ht k hk hk
    rw [hrk] at hn
    have e : (mTab ds L)[r] = numF ds L L.length r := by simp only [hm]; unfold numL; rw [List.getElem_map, List.getElem_range]
    unfold mLook
    rw [hlk, if_pos rfl, valI_at hj hx, he, rowR_at hrs, e, hn]
set_option maxHeartbeats 1000000 in
theorem equalIntsT_any (ss : List Int) (A A2 : Option Addr) (c c2 n n2 : Nat) (w : World) (hr : SI w w.heap.size A n c ss) (hr2 : SI w w.heap.size A2 n2 c2 ss) :
    Calls Try.prog 21 #[.slice A n c, .slice A2 n2 c2] w fun e w' => e = .returned (.bool true) ∧ Below w.heap.size w w' := by
  obtain rfl := hr.len
  obtain rfl := hr2.len
  have hl := hr.max
  have hl2 := hr.cap
  unfold maxLen at hl
  have HR := Lib.hid hr
  have HR2 := Lib.hid hr2
  clear hr hr2
  go_enter Try.func21, Try.ntmps21
  go_wp2
  go_loopw [5] (fun i wr => ∃ (k : Nat), k ≤ ss.length ∧ i = .int .i64 k ∧ Hid (Below w.heap.size w wr)) (fun i _ => ss.length - (intOf i).toNat)
  case atStart => exact ⟨0, Nat.zero_le _, rfl, Lib.hid (Below.refl _ _)⟩
  case round =>
    obtain ⟨k, hk, rfl, hbel⟩ := hrel
    by_cases hlt : k < ss.length
    · obtain ⟨b, o, rfl, hb, c1⟩ := (HR.out.below hbel.out).at_ hlt
      obtain ⟨b', o', rfl, hb', c1'⟩ := (HR2.out.below hbel.out).at_ hlt
      have hi1 : (k : Int) < (ss.length : Int) := by omega
      have hi0 : (0 : Int) ≤ (k : Int) := by omega
      go_wp2
      go_quiet (fail)
      go_wp2
      go_roundw
      case rel => exact ⟨k + 1, by omega, by go_num, Lib.hid (below_drewN hbel.out _)⟩
      case measure => simp [intOf]; omega
    · obtain rfl : k = ss.length := by omega
      go_wp2
      go_ret
      exact ⟨rfl, hbel.out⟩
end Go.Proofs.Ytpmanbmhbfnefaa
