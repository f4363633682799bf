import Derived.Test.YtpmanbmhbfnefaaAlgI
import Derived.Test.YtpmanbmhbfnefaaAppW
import Derived.Test.YtpmanbmhbfnefaaBaseC
namespace Go.Proofs.Ytpmanbmhbfnefaa
open Go.RowKit Go.Maps
set_option linter.unusedVariables false
set_option maxRecDepth 100000

set_option maxHeartbeats 4000000 in
theorem implParts_any (ds : List D) (b : Int) (x : Int) (A : Option Addr) (m c : Nat) (w : World) (hr : SD w w.heap.size A m c ds) (hn : m ≤ 1048576) :
    Calls Try.prog 36 #[.agg #[.slice A m c, .int .i64 b], .int .i64 x] w (IntsP (mParts ds b x) w) := by
  have HF := Lib.hid (FB.start hr b)
  clear hr
  cases hv : mIsV ds b x
  · have HV := Lib.hid hv
    have HM : Hid (mParts ds b x = []) := Lib.hid (by unfold mParts mPartsOk; rw [hv]; rfl)
    clear hv
    go_enter Try.func36, Try.ntmps36
    go_wp2_with (go_at_call 81; refine (implIsV_v ds b x _ _ _ _ HF.out.sd hn HV.out).mono ?_; rintro e w' ⟨rfl, hb⟩)
    go_ret
    exact ⟨none, 0, by rw [HM.out]; rfl, by rw [HM.out]; exact World.ownsRow_nil _ _ _ _, HF.out.after hb⟩
  obtain ⟨p, rfl, hp⟩ := mIsV_nat hv
  have HV := Lib.hid hv
  obtain ⟨r, hr⟩ : ∃ r, popc p = r := ⟨_, rfl⟩
  have HR : Hid (mCount ds b p = (r : Int)) := Lib.hid (by unfold mCount; rw [hv, if_pos rfl, Int.toNat_natCast, hr])
  by_cases h6 : 6 < r
  · have HM : Hid (mParts ds b p = []) := Lib.hid (by unfold mParts mPartsOk; rw [Int.toNat_natCast, hr, decide_eq_false (by omega), Bool.and_false]; rfl)
    clear hv hr
    go_enter Try.func36, Try.ntmps36
    go_wp2_with fail
    refine (implIsV_v ds b p _ _ _ _ HF.out.sd hn HV.out).mono ?_
    rintro e w1 ⟨rfl, hb⟩
    have HF1 := Lib.hid (HF.out.call hb)
    have c0 := HF1.out.c0
    have c1 := HF1.out.c1
    clear hb HF
    go_wp2_with fail
    refine (implCount_v ds b p _ _ _ _ HF1.out.sd hn HR.out).mono ?_
    rintro e w2 ⟨rfl, hb⟩
    have HB2 := Lib.hid (HF1.out.after hb)
    clear hb
    go_wp2
    go_ret
    exact ⟨none, 0, by rw [HM.out]; rfl, by rw [HM.out]; exact World.ownsRow_nil _ _ _ _, HB2.out⟩
  have HM : Hid (mParts ds b p = partsTo p (p + 1)) := Lib.hid (by unfold mParts mPartsOk; rw [hv, Int.toNat_natCast, hr, decide_eq_true (by omega)]; rfl)
  clear hv hr
  go_enter Try.func36, Try.ntmps36
  go_wp2_with fail
  refine (implIsV_v ds b p _ _ _ _ HF.out.sd hn HV.out).mono ?_
  rintro e w1 ⟨rfl, hb⟩
  have HF1 := Lib.hid (HF.out.call hb)
  have c0 := HF1.out.c0
  have c1 := HF1.out.c1
  clear hb HF
  go_wp2_with fail
  refine (implCount_v ds b p _ _ _ _ HF1.out.sd hn HR.out).mono ?_
  rintro e w2 ⟨rfl, hb⟩
  have HB2 := Lib.hid (HF1.out.after hb)
  clear hb
  go_wp2
  go_loopw [5, 6] (fun v i wr => ∃ k : Nat, k ≤ p + 1 ∧ i = .int .i64 k ∧ Hid (wr.ownsRow w.heap.size 3 1 v (partsTo p k).length (flatI (partsTo p k))) ∧ Hid (Below w.heap.size w wr)) (fun _ i _ => p + 1 - (intOf i).toNat)
  case atStart => exact ⟨0, Nat.zero_le _, rfl, Lib.hid (World.ownsRow_nil _ _ _ _), HB2⟩
  case round =>
    clear HB2
    obtain ⟨k, hk, rfl, hown, hbel⟩ := hrel
    by_cases hlt : k ≤ p
    · have hk4 : k < 4096 := by omega
      have hle : (k : Int) ≤ (p : Int) := by omega
      have HT := Lib.hid (partsTo_succ p k)
      have HL := Lib.hid (partsTo_len p k)
      obtain ⟨v, hv⟩ : ∃ v, decide (nl k p = 0) = v := ⟨_, rfl⟩
      have HV := Lib.hid hv
      have HC : Hid (partN p k = v) := Lib.hid hv
      clear hv
      cases v
      · have HTT : Hid (partsTo p (k + 1) = partsTo p k) := Lib.hid (by rw [HT.out, HC.out]; simp)
        go_wp2_with (go_at_call 73; refine (bsHas_v p k _ hp hk4 HV.out).mono ?_; rintro e w3 ⟨rfl, rfl⟩)
        go_roundw
        case rel => exact ⟨k + 1, by omega, by go_num, Lib.hid (by rw [HTT.out]; exact hown.out), hbel⟩
        case measure => simp [intOf]; omega
      · have HTT : Hid (partsTo p (k + 1) = partsTo p k ++ [(k : Int)]) := Lib.hid (by rw [HT.out, HC.out]; rfl)
        go_wp2_with (first | (go_at_call 73; refine (bsHas_v p k _ hp hk4 HV.out).mono ?_; rintro e w3 ⟨rfl, rfl⟩) | (at_builtin; refine wpList_app_I rfl _ _ rfl _ _ _ _ rfl hown.out _ _ _ rfl (by first | rfl | simp) (by have := HL.out; omega) hbel.out.size ?_; intro v' w4 ho1 hb1; have HO1 := Lib.hid ho1; have HB4 := Lib.hid hb1; clear ho1 hb1))
        go_roundw
        case rel => exact ⟨k + 1, by omega, by go_num, Lib.hid (by rw [HTT.out, List.length_append]; simpa [flatI] using HO1.out), Lib.hid (hbel.out.trans HB4.out)⟩
        case measure => simp [intOf]; omega
    · obtain rfl : k = p + 1 := by omega
      have hle : ¬ (((p + 1 : Nat) : Int) ≤ (p : Int)) := by omega
      go_wp2
      go_ret
      obtain ⟨A', c', hv⟩ := own_form hown.out
      subst hv
      exact ⟨A', c', by rw [HM.out]; first | done | rfl, by rw [HM.out]; exact hown.out, hbel.out⟩

end Go.Proofs.Ytpmanbmhbfnefaa
