import Derived.Test.YtkholjcmaebaaaaAlgS
import Derived.Test.YtkholjcmaebaaaaBaseC
import Derived.BigQuiet
namespace Go.Proofs.Ytkholjcmaebaaaa
open Go.RowKit Go.Maps
set_option linter.unusedVariables false
set_option maxRecDepth 100000

set_option maxHeartbeats 4000000 in
theorem specFrom_v (ds : List D) (b : Int) (ss : List ByteArray) (A : Option Addr) (m c : Nat) (w : World) (hr : SD w w.heap.size A m c ds) (As : Option Addr) (q cs : Nat) (hs : SS w w.heap.size As q cs ss) {r : Int} {v : Bool} (hm : mFrom ds b ss = r) (hm2 : mFromOk ds b ss = v) :
    Calls Try.prog 82 #[.agg #[.slice A m c, .int .i64 b], .slice As q cs] w (fun e w' => e = .returned (.tuple #[.int .i64 r, .bool v]) ∧ Below w.heap.size w w') := by
  subst hm hm2
  have hl := hs.max
  have hl2 := hs.cap
  unfold maxLen at hl
  obtain rfl := hs.len
  have HF := Lib.hid (FS.mk (FB.start hr b) (hs.below ((Below.refl _ _).alloc (Nat.le_refl _) _)))
  have HOK := Lib.hid hr.ok
  clear hr hs
  cases hv : vFlag ds b
  · have HV := Lib.hid hv
    have HM : Hid (mFrom ds b ss = 0 ∧ mFromOk ds b ss = false) := Lib.hid (by unfold mFrom mFromOk; rw [hv]; exact ⟨rfl, rfl⟩)
    clear hv
    go_enter Try.func82, Try.ntmps82
    go_wp2_with (go_at_call 78; refine (specVF_v ds b _ _ _ _ HF.out.fb.sd HV.out).mono ?_; rintro e w' ⟨rfl, hb⟩)
    go_ret2
    exact ⟨by rw [HM.out.1, HM.out.2]; first | done | rfl, HF.out.fb.after hb⟩
  · have HV := Lib.hid hv
    have HIN := Lib.hid (vFlag_in hv)
    have HMV : Hid (vFlag ds b = true) := Lib.hid hv
    clear hv
    go_enter Try.func82, Try.ntmps82
    go_wp2_with (go_at_call 78; refine (specVF_v ds b _ _ _ _ HF.out.fb.sd HV.out).mono ?_; rintro e w1 ⟨rfl, hb⟩; have HF1 := Lib.hid (HF.out.call hb); clear hb)
    go_loopw [6, 7] (fun o i wr => ∃ (k x : Nat), k ≤ ss.length ∧ x < 4096 ∧ i = .int .i64 k ∧ o = .int .i64 x ∧ Hid (x = fromTo ds (ss.take k)) ∧ Hid (∀ j (hj : j < ss.length), j < k → 0 ≤ fidx (isNm ss[j]) ds) ∧ Hid (FS w wr w.heap.size A m c ds b As ss.length cs ss)) (fun _ i _ => ss.length - (intOf i).toNat)
    case atStart => exact ⟨0, 0, Nat.zero_le _, by omega, rfl, rfl, Lib.hid rfl, Lib.hid (fun j hj h => by omega), HF1⟩
    case round =>
      clear HF HF1
      obtain ⟨k, x, hk, hx4, rfl, rfl, hx, hall, hf⟩ := hrel
      have c0 := hf.out.fb.c0
      by_cases hlt : k < ss.length
      · obtain ⟨bb, o, hA, hbb, d1⟩ := (hf.out.ss0.call hf.out.fb.bel.size).at_ hlt
        subst hA
        have hi1 : (k : Int) < (ss.length : Int) := by omega
        have HS := Lib.hid hf.out.fb.sd
        have HT : Hid (∀ n, SD (wr.drewN n) (wr.drewN n).heap.size A m c ds) := Lib.hid fun n => (hf.out.fb.drewN n).sd
        rcases fidx_cases (isNm ss[k]) ds with ⟨hj, _⟩ | ⟨j, hjl, hj, _, _⟩
        · have HJ := Lib.hid hj
          have HM : Hid (mFrom ds b ss = 0 ∧ mFromOk ds b ss = false) := Lib.hid (by unfold mFrom mFromOk; rw [allN_false hlt (by omega), Bool.and_false]; exact ⟨rfl, rfl⟩)
          clear hj
          go_wp2
          go_quiet ((go_at_call 143; exact quiet_eq (indexOf_v ds _ _ _ _ _ (HT.out _) HJ.out)))
          have hfq := Lib.hid (hf.out.drewN nq)
          generalize wr.drewN nq = wq at *
          go_wp2
          go_ret2
          exact ⟨by rw [HM.out.1, HM.out.2]; first | done | rfl, hfq.out.fb.bel⟩
        · have HJ := Lib.hid hj
          obtain ⟨y, hy⟩ : ∃ y : Nat, ds[j].val = y := ⟨ds[j].val.toNat, (Int.toNat_of_nonneg (HIN.out _ (List.getElem_mem hjl)).1).symm⟩
          have hy4 : y < 4096 := by have := (HIN.out _ (List.getElem_mem hjl)).2; omega
          obtain ⟨bd, od, hA, hbd, d2, d3⟩ := HS.out.at_ hjl
          have hlm := HS.out.len
          subst hA
          have hi2 : (j : Int) < (m : Int) := by omega
          rw [hy] at d3
          obtain ⟨z, hz⟩ : ∃ z, x ||| y = z := ⟨_, rfl⟩
          have HZ := Lib.hid hz
          have hz4 : z < 4096 := by rw [← hz]; exact or_lt hx4 hy4
          have HX2 : Hid (z = fromTo ds (ss.take (k + 1))) := Lib.hid (by rw [fromTo_snoc ds ss k hlt, ← hx.out, valN_at hjl hj, hy, ← hz]; rfl)
          have HALL : Hid (∀ i (hi : i < ss.length), i < k + 1 → 0 ≤ fidx (isNm ss[i]) ds) := Lib.hid (fun i hi hik => by
            by_cases h : i = k
            · subst h; omega
            · exact hall.out i hi (by omega))
          clear hj hy hz hlm
          go_wp2
          go_quiet ((go_at_call 143; exact quiet_eq (indexOf_v ds _ _ _ _ _ (HT.out _) HJ.out)))
          have hfq := Lib.hid (hf.out.drewN nq)
          have d3q : (wr.drewN nq).cell? ⟨bd, od + j * 2 + 1, none⟩ = some (.int .i64 y) := d3
          have c0q := hfq.out.fb.c0
          clear d2 d3 d1 c0 HT HS hf
          generalize wr.drewN nq = wq at *
          go_wp2_with (go_at_call 142; refine (either_any x y _ hx4 hy4 HZ.out).mono ?_; rintro e w' ⟨rfl, rfl⟩)
          go_roundw
          case rel => exact ⟨k + 1, z, by omega, hz4, by go_num, rfl, HX2, HALL, hfq⟩
          case measure => simp [intOf]; omega
      · obtain rfl : k = ss.length := by omega
        have HM : Hid (mFrom ds b ss = (x : Int) ∧ mFromOk ds b ss = true) := Lib.hid (by
          have h1 : mFromOk ds b ss = true := by unfold mFromOk; rw [HMV.out, allN_true (fun i hi => hall.out i hi hi)]; rfl
          refine ⟨?_, h1⟩
          unfold mFrom; rw [h1, if_pos rfl, hx.out, List.take_of_length_le (Nat.le_refl _)])
        go_wp2
        go_ret2
        exact ⟨by rw [HM.out.1, HM.out.2]; first | done | rfl, hf.out.fb.bel⟩

end Go.Proofs.Ytkholjcmaebaaaa
