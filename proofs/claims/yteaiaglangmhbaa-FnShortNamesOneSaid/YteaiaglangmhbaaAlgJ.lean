import Derived.Test.YteaiaglangmhbaaAlgI
import Derived.Test.YteaiaglangmhbaaAppW
import Derived.Test.YteaiaglangmhbaaBaseC
namespace Go.Proofs.Yteaiaglangmhbaa
open Go.RowKit Go.Maps
set_option linter.unusedVariables false
set_option maxRecDepth 100000

set_option maxHeartbeats 4000000 in
theorem implWithin_any (ds : List D) (a : Nat) (A : Option Addr) (n c : Nat) (w : World) (hr : SD w w.heap.size A n c ds) (hin : ∀ d ∈ ds, inR d) (hn : n ≤ 1048576) (ha : a < 4096) :
    Calls Try.prog 79 #[.slice A n c, .int .i64 a] w (DefsP (mWithin ds a) w) := by
  obtain rfl := hr.len
  have hl := hr.max
  have hl2 := hr.cap
  unfold maxLen at hl
  have HR := Lib.hid hr
  have HIN := Lib.hid hin
  clear hr hin
  go_enter Try.func79, Try.ntmps79
  go_wp2
  go_loopw [5, 10] (fun v i wr => ∃ k : Nat, k ≤ ds.length ∧ i = .int .i64 k ∧ Hid (wr.ownsRow w.heap.size 70 2 v (inTo ds a k).length (flat (inTo ds a k))) ∧ Hid (Below w.heap.size w wr)) (fun _ i _ => ds.length - (intOf i).toNat)
  case atStart => exact ⟨0, Nat.zero_le _, rfl, Lib.hid (World.ownsRow_nil _ _ _ _), Lib.hid (Below.refl _ _)⟩
  case round =>
    obtain ⟨k, hk, rfl, hown, hbel⟩ := hrel
    by_cases hlt : k < ds.length
    · obtain ⟨b, o, rfl, hb, c1, c2⟩ := (HR.out.below hbel.out).at_ hlt
      have hi1 : (k : Int) < (ds.length : Int) := by omega
      have HI := Lib.hid (HIN.out _ (List.getElem_mem hlt))
      obtain ⟨x, hx⟩ : ∃ x : Nat, ds[k].val = x := ⟨ds[k].val.toNat, (Int.toNat_of_nonneg HI.out.1).symm⟩
      have hx4 : x < 4096 := by have := HI.out.2; omega
      have HT := Lib.hid (inTo_succ ds a k hlt)
      have HE : Hid (encD ds[k] = [.string ds[k].name, .int .i64 x]) := Lib.hid (by unfold encD; rw [hx])
      have HL := Lib.hid (inTo_len ds a k)
      obtain ⟨v, hv⟩ : ∃ v, decide (nl x a = 0) = v := ⟨_, rfl⟩
      have HC : Hid (fitIn a ds[k] = v) := Lib.hid (by unfold fitIn; rw [hx]; exact hv)
      have HV := Lib.hid hv
      rw [hx] at c2
      clear hx hv
      have l0 : (wr.alloc (.cells #[.string ds[k].name, .int .i64 x] 70)).cell? ⟨wr.heap.size, 0, none⟩ = some (.string ds[k].name) := by simp [go_sem]
      have l1 : (wr.alloc (.cells #[.string ds[k].name, .int .i64 x] 70)).cell? ⟨wr.heap.size, 1, none⟩ = some (.int .i64 x) := by simp [go_sem]
      have hbW : Below wr.heap.size wr (wr.alloc (.cells #[.string ds[k].name, .int .i64 x] 70)) := (Below.refl _ _).alloc (Nat.le_refl _) _
      have HBW : Hid (Below w.heap.size w (wr.alloc (.cells #[.string ds[k].name, .int .i64 x] 70))) := Lib.hid (hbel.out.trans (hbW.mono hbel.out.size))
      have HOW := Lib.hid (own_below hown.out hbW)
      clear hbW
      cases v
      · have HTT : Hid (inTo ds a (k + 1) = inTo ds a k) := Lib.hid (by rw [HT.out, HC.out]; simp)
        go_wp2_with (go_at_call 77; refine (bsHas_v a x _ ha hx4 HV.out).mono ?_; rintro e w' ⟨rfl, rfl⟩)
        go_roundw
        case rel => exact ⟨k + 1, by omega, by go_num, Lib.hid (by rw [HTT.out]; exact HOW.out), HBW⟩
        case measure => simp [intOf]; omega
      · have HTT : Hid (inTo ds a (k + 1) = inTo ds a k ++ [ds[k]]) := Lib.hid (by rw [HT.out, HC.out]; rfl)
        go_wp2_with (first | (go_at_call 77; refine (bsHas_v a x _ ha hx4 HV.out).mono ?_; rintro e w' ⟨rfl, rfl⟩) | (at_builtin; refine wpList_app_Df rfl _ _ rfl w.heap.size _ _ _ rfl HOW.out _ _ _ _ rfl (by first | rfl | simp) (by have := HL.out; omega) HBW.out.size ?_; intro v' w3 ho1 hb1; have HO1 := Lib.hid ho1; have HB1 := Lib.hid hb1; clear ho1 hb1))
        go_roundw
        case rel => exact ⟨k + 1, by omega, by go_num, Lib.hid (by rw [HTT.out, List.length_append]; simpa [flat, HE.out] using HO1.out), Lib.hid (HBW.out.trans HB1.out)⟩
        case measure => simp [intOf]; omega
    · obtain rfl : k = ds.length := by omega
      go_wp2
      go_ret
      obtain ⟨A', c', hv⟩ := own_form hown.out
      subst hv
      have h2 := hown.out
      have e1 : inTo ds a ds.length = mWithin ds a := by unfold inTo; rw [List.take_of_length_le (Nat.le_refl _)]
      rw [e1] at h2 ⊢
      exact ⟨A', c', rfl, h2, hbel.out⟩
set_option maxHeartbeats 2000000 in
theorem implNamesIn_any (ds : List D) (b : Int) (x : Int) (A : Option Addr) (m c : Nat) (w : World) (hr : SD w w.heap.size A m c ds) (hn : m ≤ 1048576) :
    Calls Try.prog 39 #[.agg #[.slice A m c, .int .i64 b], .int .i64 x] w (StrsP (mNamesIn ds b x) w) := by
  have HF := Lib.hid (FB.start hr b)
  have HOK := Lib.hid hr.ok
  clear hr
  cases hv : mIsV ds b x
  · have HV := Lib.hid hv
    have HM : Hid (mNamesIn ds b x = []) := Lib.hid (if_no hv)
    clear hv
    go_enter Try.func39, Try.ntmps39
    go_wp2_with (go_at_call 36; refine (implIsV_v ds b x _ _ _ _ HF.out.sd hn HV.out).mono ?_; rintro e w' ⟨rfl, hb⟩)
    go_ret
    exact ⟨none, 0, by rw [HM.out]; rfl, by rw [HM.out]; exact World.ownsRow_nil _ _ _ _, HF.out.after hb⟩
  obtain ⟨p, rfl, hp⟩ := mIsV_nat hv
  have HV := Lib.hid hv
  have HM : Hid (mNamesIn ds b p = (mIn ds p).map (·.name)) := Lib.hid (by unfold mNamesIn; rw [hv, if_pos rfl, Int.toNat_natCast])
  have HL : Hid ((mIn ds p).length ≤ 1048576) := Lib.hid (by have := mIn_len ds p; omega)
  have HLS : Hid ((mSg ds).length ≤ 1048576) := Lib.hid (by have := mSg_len ds; omega)
  have HIN : Hid (∀ d ∈ mSg ds, inR d) := Lib.hid (mSg_in (vFlag_in (mIsV_flag hv)))
  have HOK2 : Hid (∀ d ∈ mIn ds p, d.ok) := Lib.hid fun d hd => mSg_ok HOK.out d (mWithin_mem hd)
  clear hv
  go_enter Try.func39, Try.ntmps39
  go_wp2_with fail
  refine (implIsV_v ds b p _ _ _ _ HF.out.sd hn HV.out).mono ?_
  rintro e w1 ⟨rfl, hb⟩
  have HF1 := Lib.hid (HF.out.call hb)
  have c0 := HF1.out.c0
  have c1 := HF1.out.c1
  clear hb HF
  go_wp2_with fail
  refine (implSg_any ds _ _ _ _ HF1.out.sd).mono ?_
  rintro e w2 ⟨A2, k2, rfl, ho, hb⟩
  have HS2 := Lib.hid (sd_of_own ho (mSg_ok HOK.out))
  have HB2 := Lib.hid (HF1.out.after hb)
  clear ho hb
  go_wp2_with fail
  refine (implWithin_any (mSg ds) p _ _ _ _ HS2.out HIN.out HLS.out hp).mono ?_
  rintro e w3 ⟨A3, k3, rfl, ho, hb⟩
  have HS3 := Lib.hid (sd_of_own ho HOK2.out)
  have HB3 : Hid (Below w.heap.size w w3) := Lib.hid (HB2.out.trans (hb.mono HB2.out.size))
  clear ho hb
  go_wp2_with fail
  refine (implNames_any (mIn ds p) _ _ _ _ HS3.out HL.out).mono ?_
  rintro e w4 ⟨A4, k4, rfl, ho, hb⟩
  have HO4 := Lib.hid ho
  have HB4 := Lib.hid hb
  clear ho hb
  go_wp2
  go_ret
  exact ⟨A4, k4, by rw [HM.out, List.length_map]; rfl, by rw [HM.out, List.length_map]; rw [List.length_map] at HO4; exact own_base HO4.out HB3.out.size, HB3.out.trans (HB4.out.mono HB3.out.size)⟩

set_option maxHeartbeats 4000000 in
theorem implFrom_v (ds : List D) (b : Int) (ss : List ByteArray) (A : Option Addr) (m c : Nat) (w : World) (hr : SD w w.heap.size A m c ds) (As : Option Addr) (q cs : Nat) (hs : SS w w.heap.size As q cs ss) (hn : m ≤ 1048576) {r : Int} {v : Bool} (hm : mFrom ds b ss = r) (hm2 : mFromOk ds b ss = v) :
    Calls Try.prog 37 #[.agg #[.slice A m c, .int .i64 b], .slice As q cs] w (fun e w' => e = .returned (.tuple #[.int .i64 r, .bool v]) ∧ Below w.heap.size w w') := by
  subst hm hm2
  have hl := hs.max
  have hl2 := hs.cap
  unfold maxLen at hl
  obtain rfl := hs.len
  have HF := Lib.hid (FS.mk (FB.start hr b) (hs.below ((Below.refl _ _).alloc (Nat.le_refl _) _)))
  have HML : Hid (ds.length = m) := Lib.hid hr.len
  clear hr hs
  cases hv : vFlag ds b
  · have HV := Lib.hid hv
    have HM : Hid (mFrom ds b ss = 0 ∧ mFromOk ds b ss = false) := Lib.hid (by unfold mFrom mFromOk; rw [hv]; exact ⟨rfl, rfl⟩)
    clear hv
    go_enter Try.func37, Try.ntmps37
    go_wp2_with fail
    refine (classOf_no ds b _ _ _ _ HF.out.fb.sd hn HV.out).mono ?_
    rintro e w1 ⟨rfl, hb⟩
    have HB1 := Lib.hid (HF.out.fb.after hb)
    have hst := st_nilFunc
    clear hb
    go_wp2
    go_ret2
    exact ⟨by rw [HM.out.1, HM.out.2]; first | done | rfl, HB1.out.alloc HB1.out.size _⟩
  have HV := Lib.hid hv
  have HIN := Lib.hid (vFlag_in hv)
  have HMV : Hid (vFlag ds b = true) := Lib.hid hv
  clear hv
  obtain ⟨fid, hfid⟩ := bdF_form b
  obtain ⟨wh, hwh⟩ : ∃ wh, mWhole ds b = wh := ⟨_, rfl⟩
  have HFID := Lib.hid hfid
  have HWH := Lib.hid hwh
  clear hfid hwh
  go_enter Try.func37, Try.ntmps37
  go_wp2_with fail
  refine (classOf_x ds b _ _ _ _ HF.out.fb.sd HV.out HFID.out HWH.out).mono ?_
  rintro e w1 ⟨rfl, hb⟩
  have HF1 := Lib.hid (HF.out.call hb)
  have HK := Lib.hid (FC.start HF1.out.fb fid wh)
  have HSS : Hid (SS (w1.alloc (.cells #[.slice A m c, .func (.func fid) #[] #[], .int .i64 wh] 103)) w.heap.size As ss.length cs ss) := Lib.hid (HF1.out.ss0.alloc HF1.out.fb.bel.size _)
  have hst := st_func
  clear hb HF HF1
  go_wp2_with fail
  generalize hW : (w1.alloc (.cells #[.slice A m c, .func (.func fid) #[] #[], .int .i64 wh] 103)) = w2 at *
  generalize hG : w1.heap.size = G at *
  clear hW hG
  go_loopw [8, 21] (fun o i wr => ∃ (k x : Nat), k ≤ ss.length ∧ x < 4096 ∧ i = .int .i64 k ∧ o = .int .i64 x ∧ Hid (x = fromTo ds (ss.take k)) ∧ Hid (∀ j (hj : j < ss.length), j < k → 0 ≤ fidx (isNm ss[j]) ds) ∧ Hid (FC w wr G A m c ds fid wh) ∧ Hid (SS wr w.heap.size As ss.length cs ss)) (fun _ i _ => ss.length - (intOf i).toNat)
  case atStart => exact ⟨0, 0, Nat.zero_le _, by omega, rfl, rfl, Lib.hid rfl, Lib.hid (fun j hj h => by omega), HK, HSS⟩
  case round =>
    clear HK HSS
    obtain ⟨k, x, hk, hx4, rfl, rfl, hx, hall, hf, hss⟩ := hrel
    have c0 := hf.out.c0
    by_cases hlt : k < ss.length
    · obtain ⟨bb, o, hA, hbb, d1⟩ := (hss.out.call hf.out.bel.size).at_ hlt
      subst hA
      have hi1 : (k : Int) < (ss.length : Int) := by omega
      have HS := Lib.hid hf.out.sd
      rcases fidx_cases (isNm ss[k]) ds with ⟨hj, _⟩ | ⟨j, hjl, hj, _, _⟩
      · have HJ := Lib.hid hj
        have HM : Hid (mFrom ds b ss = 0 ∧ mFromOk ds b ss = false) := Lib.hid (by unfold mFrom mFromOk; rw [allN_false hlt (by omega), Bool.and_false]; exact ⟨rfl, rfl⟩)
        clear hj
        go_wp2_with (go_at_call 75; refine (indexOfName_v ds _ _ _ _ _ HS.out HJ.out).mono ?_; rintro e w' ⟨rfl, hb⟩; have hfq := Lib.hid (hf.out.after hb); clear hb)
        go_ret2
        exact ⟨by rw [HM.out.1, HM.out.2]; first | done | rfl, hfq.out⟩
      · have HJ := Lib.hid hj
        obtain ⟨y, hy⟩ : ∃ y : Nat, ds[j].val = y := ⟨ds[j].val.toNat, (Int.toNat_of_nonneg (HIN.out _ (List.getElem_mem hjl)).1).symm⟩
        have hy4 : y < 4096 := by have := (HIN.out _ (List.getElem_mem hjl)).2; omega
        have hi2 : (j : Int) < (m : Int) := by have := HML.out; omega
        obtain ⟨z, hz⟩ : ∃ z, x ||| y = z := ⟨_, rfl⟩
        have HZ := Lib.hid hz
        have hz4 : z < 4096 := by rw [← hz]; exact or_lt hx4 hy4
        have HX2 : Hid (z = fromTo ds (ss.take (k + 1))) := Lib.hid (by rw [fromTo_snoc ds ss k hlt, ← hx.out, valN_at hjl hj, hy, ← hz]; rfl)
        have HALL : Hid (∀ i (hi : i < ss.length), i < k + 1 → 0 ≤ fidx (isNm ss[i]) ds) := Lib.hid (fun i hi hik => by
          by_cases h : i = k
          · subst h; omega
          · exact hall.out i hi (by omega))
        have HYV := Lib.hid hy
        clear hj hy hz
        go_wp2_with fail
        refine (indexOfName_v ds _ _ _ _ _ HS.out HJ.out).mono ?_
        rintro e w' ⟨rfl, hb⟩
        have hfq := Lib.hid (hf.out.call hb)
        have hsq := Lib.hid (hss.out.below' hb hf.out.bel.size)
        obtain ⟨bd, od, hA, hbd, d2, d3⟩ := hfq.out.sd.at_ hjl
        subst hA
        rw [HYV.out] at d3
        have e0 := hfq.out.c0
        clear hb d1 c0 hf hss HS
        go_wp2_with (go_at_call 76; refine (bsOr_v x y _ hx4 hy4 HZ.out).mono ?_; rintro e w' ⟨rfl, rfl⟩)
        go_roundw
        case rel => exact ⟨k + 1, z, by omega, hz4, by go_num, rfl, HX2, HALL, hfq, hsq⟩
        case measure => simp [intOf]; omega
    · obtain rfl : k = ss.length := by omega
      have HM : Hid (mFrom ds b ss = (x : Int) ∧ mFromOk ds b ss = true) := Lib.hid (by
        have h1 : mFromOk ds b ss = true := by unfold mFromOk; rw [HMV.out, allN_true (fun i hi => hall.out i hi hi)]; rfl
        refine ⟨?_, h1⟩
        unfold mFrom; rw [h1, if_pos rfl, hx.out, List.take_of_length_le (Nat.le_refl _)])
      go_wp2
      go_ret2
      exact ⟨by rw [HM.out.1, HM.out.2]; first | done | rfl, hf.out.bel⟩

end Go.Proofs.Yteaiaglangmhbaa
