import Derived.Test.YtboehlffbibgmaaAlgI
import Derived.Test.YtboehlffbibgmaaAppW
import Derived.Test.YtboehlffbibgmaaBaseC
namespace Go.Proofs.Ytboehlffbibgmaa
open Go.RowKit Go.Maps
set_option linter.unusedVariables false
set_option maxRecDepth 100000

set_option maxHeartbeats 4000000 in
theorem implFrom_v (ds : List D) (b : Int) (ss : List ByteArray) (A : Option Addr) (m c : Nat) (w : World) (hr : SD w w.heap.size A m c ds) (As : Option Addr) (q cs : Nat) (hs : SS w w.heap.size As q cs ss) (hn : m ≤ 1048576) {r : Int} {v : Bool} (hm : mFrom ds b ss = r) (hm2 : mFromOk ds b ss = v) :
    Calls Try.prog 7 #[.agg #[.slice A m c, .int .i64 b], .slice As q cs] w (fun e w' => e = .returned (.tuple #[.int .i64 r, .bool v]) ∧ Below w.heap.size w w') := by
  subst hm hm2
  have hl := hs.max
  have hl2 := hs.cap
  unfold maxLen at hl
  obtain rfl := hs.len
  have HF := Lib.hid (FS.mk (FB.start hr b) (hs.below ((Below.refl _ _).alloc (Nat.le_refl _) _)))
  have HML : Hid (ds.length = m) := Lib.hid hr.len
  clear hr hs
  cases hv : vFlag ds b
  · have HV := Lib.hid hv
    have HM : Hid (mFrom ds b ss = 0 ∧ mFromOk ds b ss = false) := Lib.hid (by unfold mFrom mFromOk; rw [hv]; exact ⟨rfl, rfl⟩)
    clear hv
    go_enter Try.func7, Try.ntmps7
    go_wp2_with fail
    refine (classOf_no ds b _ _ _ _ HF.out.fb.sd hn HV.out).mono ?_
    rintro e w1 ⟨rfl, hb⟩
    have HB1 := Lib.hid (HF.out.fb.after hb)
    have hst := st_nilFunc
    clear hb
    go_wp2
    go_ret2
    exact ⟨by rw [HM.out.1, HM.out.2]; first | done | rfl, HB1.out.alloc HB1.out.size _⟩
  have HV := Lib.hid hv
  have HIN := Lib.hid (vFlag_in hv)
  have HMV : Hid (vFlag ds b = true) := Lib.hid hv
  clear hv
  obtain ⟨fid, hfid⟩ := bdF_form b
  obtain ⟨wh, hwh⟩ : ∃ wh, mWhole ds b = wh := ⟨_, rfl⟩
  have HFID := Lib.hid hfid
  have HWH := Lib.hid hwh
  clear hfid hwh
  go_enter Try.func7, Try.ntmps7
  go_wp2_with fail
  refine (classOf_x ds b _ _ _ _ HF.out.fb.sd HV.out HFID.out HWH.out).mono ?_
  rintro e w1 ⟨rfl, hb⟩
  have HF1 := Lib.hid (HF.out.call hb)
  have HK := Lib.hid (FC.start HF1.out.fb fid wh)
  have HSS : Hid (SS (w1.alloc (.cells #[.slice A m c, .func (.func fid) #[] #[], .int .i64 wh] 45)) w.heap.size As ss.length cs ss) := Lib.hid (HF1.out.ss0.alloc HF1.out.fb.bel.size _)
  have hst := st_func
  clear hb HF HF1
  go_wp2_with fail
  generalize hW : (w1.alloc (.cells #[.slice A m c, .func (.func fid) #[] #[], .int .i64 wh] 45)) = w2 at *
  generalize hG : w1.heap.size = G at *
  clear hW hG
  go_loopw [8, 21] (fun o i wr => ∃ (k x : Nat), k ≤ ss.length ∧ x < 4096 ∧ i = .int .i64 k ∧ o = .int .i64 x ∧ Hid (x = fromTo ds (ss.take k)) ∧ Hid (∀ j (hj : j < ss.length), j < k → 0 ≤ fidx (isNm ss[j]) ds) ∧ Hid (FC w wr G A m c ds fid wh) ∧ Hid (SS wr w.heap.size As ss.length cs ss)) (fun _ i _ => ss.length - (intOf i).toNat)
  case atStart => exact ⟨0, 0, Nat.zero_le _, by omega, rfl, rfl, Lib.hid rfl, Lib.hid (fun j hj h => by omega), HK, HSS⟩
  case round =>
    clear HK HSS
    obtain ⟨k, x, hk, hx4, rfl, rfl, hx, hall, hf, hss⟩ := hrel
    have c0 := hf.out.c0
    by_cases hlt : k < ss.length
    · obtain ⟨bb, o, hA, hbb, d1⟩ := (hss.out.call hf.out.bel.size).at_ hlt
      subst hA
      have hi1 : (k : Int) < (ss.length : Int) := by omega
      have HS := Lib.hid hf.out.sd
      rcases fidx_cases (isNm ss[k]) ds with ⟨hj, _⟩ | ⟨j, hjl, hj, _, _⟩
      · have HJ := Lib.hid hj
        have HM : Hid (mFrom ds b ss = 0 ∧ mFromOk ds b ss = false) := Lib.hid (by unfold mFrom mFromOk; rw [allN_false hlt (by omega), Bool.and_false]; exact ⟨rfl, rfl⟩)
        clear hj
        go_wp2_with (go_at_call 16; refine (indexOfName_v ds _ _ _ _ _ HS.out HJ.out).mono ?_; rintro e w' ⟨rfl, hb⟩; have hfq := Lib.hid (hf.out.after hb); clear hb)
        go_ret2
        exact ⟨by rw [HM.out.1, HM.out.2]; first | done | rfl, hfq.out⟩
      · have HJ := Lib.hid hj
        obtain ⟨y, hy⟩ : ∃ y : Nat, ds[j].val = y := ⟨ds[j].val.toNat, (Int.toNat_of_nonneg (HIN.out _ (List.getElem_mem hjl)).1).symm⟩
        have hy4 : y < 4096 := by have := (HIN.out _ (List.getElem_mem hjl)).2; omega
        have hi2 : (j : Int) < (m : Int) := by have := HML.out; omega
        obtain ⟨z, hz⟩ : ∃ z, x ||| y = z := ⟨_, rfl⟩
        have HZ := Lib.hid hz
        have hz4 : z < 4096 := by rw [← hz]; exact or_lt hx4 hy4
        have HX2 : Hid (z = fromTo ds (ss.take (k + 1))) := Lib.hid (by rw [fromTo_snoc ds ss k hlt, ← hx.out, valN_at hjl hj, hy, ← hz]; rfl)
        have HALL : Hid (∀ i (hi : i < ss.length), i < k + 1 → 0 ≤ fidx (isNm ss[i]) ds) := Lib.hid (fun i hi hik => by
          by_cases h : i = k
          · subst h; omega
          · exact hall.out i hi (by omega))
        have HYV := Lib.hid hy
        clear hj hy hz
        go_wp2_with fail
        refine (indexOfName_v ds _ _ _ _ _ HS.out HJ.out).mono ?_
        rintro e w' ⟨rfl, hb⟩
        have hfq := Lib.hid (hf.out.call hb)
        have hsq := Lib.hid (hss.out.below' hb hf.out.bel.size)
        obtain ⟨bd, od, hA, hbd, d2, d3⟩ := hfq.out.sd.at_ hjl
        subst hA
        rw [HYV.out] at d3
        have e0 := hfq.out.c0
        clear hb d1 c0 hf hss HS
        go_wp2_with (go_at_call 17; refine (bsOr_v x y _ hx4 hy4 HZ.out).mono ?_; rintro e w' ⟨rfl, rfl⟩)
        go_roundw
        case rel => exact ⟨k + 1, z, by omega, hz4, by go_num, rfl, HX2, HALL, hfq, hsq⟩
        case measure => simp [intOf]; omega
    · obtain rfl : k = ss.length := by omega
      have HM : Hid (mFrom ds b ss = (x : Int) ∧ mFromOk ds b ss = true) := Lib.hid (by
        have h1 : mFromOk ds b ss = true := by unfold mFromOk; rw [HMV.out, allN_true (fun i hi => hall.out i hi hi)]; rfl
        refine ⟨?_, h1⟩
        unfold mFrom; rw [h1, if_pos rfl, hx.out, List.take_of_length_le (Nat.le_refl _)])
      go_wp2
      go_ret2
      exact ⟨by rw [HM.out.1, HM.out.2]; first | done | rfl, hf.out.bel⟩

end Go.Proofs.Ytboehlffbibgmaa
