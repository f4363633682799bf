import Derived.Test.YtboehlffbibgmaaGreatDoorAlgI
import Derived.Test.YtboehlffbibgmaaGreatDoorAppW
import Derived.Test.YtboehlffbibgmaaGreatDoorBaseC
namespace Go.Proofs.YtboehlffbibgmaaGreatDoor
open Go.RowKit Go.Maps
set_option linter.unusedVariables false
set_option maxRecDepth 100000

set_option maxHeartbeats 4000000 in
theorem implWithin_any (ds : List D) (a : Nat) (A : Option Addr) (n c : Nat) (w : World) (hr : SD w w.heap.size A n c ds) (hin : ∀ d ∈ ds, inR d) (hn : n ≤ 1048576) (ha : a < 4096) :
    Calls Tryz.prog 23 #[.slice A n c, .int .i64 a] w (DefsP (mWithin ds a) w) := by
  obtain rfl := hr.len
  have hl := hr.max
  have hl2 := hr.cap
  unfold maxLen at hl
  have HR := Lib.hid hr
  have HIN := Lib.hid hin
  clear hr hin
  go_enter Tryz.func23, Tryz.ntmps23
  go_wp2
  go_loopw [5, 10] (fun v i wr => ∃ k : Nat, k ≤ ds.length ∧ i = .int .i64 k ∧ Hid (wr.ownsRow w.heap.size 82 2 v (inTo ds a k).length (flat (inTo ds a k))) ∧ Hid (Below w.heap.size w wr)) (fun _ i _ => ds.length - (intOf i).toNat)
  case atStart => exact ⟨0, Nat.zero_le _, rfl, Lib.hid (World.ownsRow_nil _ _ _ _), Lib.hid (Below.refl _ _)⟩
  case round =>
    obtain ⟨k, hk, rfl, hown, hbel⟩ := hrel
    by_cases hlt : k < ds.length
    · obtain ⟨b, o, rfl, hb, c1, c2⟩ := (HR.out.below hbel.out).at_ hlt
      have hi1 : (k : Int) < (ds.length : Int) := by omega
      have HI := Lib.hid (HIN.out _ (List.getElem_mem hlt))
      obtain ⟨x, hx⟩ : ∃ x : Nat, ds[k].val = x := ⟨ds[k].val.toNat, (Int.toNat_of_nonneg HI.out.1).symm⟩
      have hx4 : x < 4096 := by have := HI.out.2; omega
      have HT := Lib.hid (inTo_succ ds a k hlt)
      have HE : Hid (encD ds[k] = [.string ds[k].name, .int .i64 x]) := Lib.hid (by unfold encD; rw [hx])
      have HL := Lib.hid (inTo_len ds a k)
      obtain ⟨v, hv⟩ : ∃ v, decide (nl x a = 0) = v := ⟨_, rfl⟩
      have HC : Hid (fitIn a ds[k] = v) := Lib.hid (by unfold fitIn; rw [hx]; exact hv)
      have HV := Lib.hid hv
      rw [hx] at c2
      clear hx hv
      have l0 : (wr.alloc (.cells #[.string ds[k].name, .int .i64 x] 82)).cell? ⟨wr.heap.size, 0, none⟩ = some (.string ds[k].name) := by simp [go_sem]
      have l1 : (wr.alloc (.cells #[.string ds[k].name, .int .i64 x] 82)).cell? ⟨wr.heap.size, 1, none⟩ = some (.int .i64 x) := by simp [go_sem]
      have hbW : Below wr.heap.size wr (wr.alloc (.cells #[.string ds[k].name, .int .i64 x] 82)) := (Below.refl _ _).alloc (Nat.le_refl _) _
      have HBW : Hid (Below w.heap.size w (wr.alloc (.cells #[.string ds[k].name, .int .i64 x] 82))) := Lib.hid (hbel.out.trans (hbW.mono hbel.out.size))
      have HOW := Lib.hid (own_below hown.out hbW)
      clear hbW
      cases v
      · have HTT : Hid (inTo ds a (k + 1) = inTo ds a k) := Lib.hid (by rw [HT.out, HC.out]; simp)
        go_wp2_with (go_at_call 50; refine (bsHas_v a x _ ha hx4 HV.out).mono ?_; rintro e w' ⟨rfl, rfl⟩)
        go_roundw
        case rel => exact ⟨k + 1, by omega, by go_num, Lib.hid (by rw [HTT.out]; exact HOW.out), HBW⟩
        case measure => simp [intOf]; omega
      · have HTT : Hid (inTo ds a (k + 1) = inTo ds a k ++ [ds[k]]) := Lib.hid (by rw [HT.out, HC.out]; rfl)
        go_wp2_with (first | (go_at_call 50; refine (bsHas_v a x _ ha hx4 HV.out).mono ?_; rintro e w' ⟨rfl, rfl⟩) | (at_builtin; refine wpList_app_Df rfl _ _ rfl w.heap.size _ _ _ rfl HOW.out _ _ _ _ rfl (by first | rfl | simp) (by have := HL.out; omega) HBW.out.size ?_; intro v' w3 ho1 hb1; have HO1 := Lib.hid ho1; have HB1 := Lib.hid hb1; clear ho1 hb1))
        go_roundw
        case rel => exact ⟨k + 1, by omega, by go_num, Lib.hid (by rw [HTT.out, List.length_append]; simpa [flat, HE.out] using HO1.out), Lib.hid (HBW.out.trans HB1.out)⟩
        case measure => simp [intOf]; omega
    · obtain rfl : k = ds.length := by omega
      go_wp2
      go_ret
      obtain ⟨A', c', hv⟩ := own_form hown.out
      subst hv
      have h2 := hown.out
      have e1 : inTo ds a ds.length = mWithin ds a := by unfold inTo; rw [List.take_of_length_le (Nat.le_refl _)]
      rw [e1] at h2 ⊢
      exact ⟨A', c', rfl, h2, hbel.out⟩
set_option maxHeartbeats 2000000 in
theorem implNamesIn_any (ds : List D) (b : Int) (x : Int) (A : Option Addr) (m c : Nat) (w : World) (hr : SD w w.heap.size A m c ds) (hn : m ≤ 1048576) :
    Calls Tryz.prog 18 #[.agg #[.slice A m c, .int .i64 b], .int .i64 x] w (StrsP (mNamesIn ds b x) w) := by
  have HF := Lib.hid (FB.start hr b)
  have HOK := Lib.hid hr.ok
  clear hr
  cases hv : mIsV ds b x
  · have HV := Lib.hid hv
    have HM : Hid (mNamesIn ds b x = []) := Lib.hid (if_no hv)
    clear hv
    go_enter Tryz.func18, Tryz.ntmps18
    go_wp2_with (go_at_call 12; refine (implIsV_v ds b x _ _ _ _ HF.out.sd hn HV.out).mono ?_; rintro e w' ⟨rfl, hb⟩)
    go_ret
    exact ⟨none, 0, by rw [HM.out]; rfl, by rw [HM.out]; exact World.ownsRow_nil _ _ _ _, HF.out.after hb⟩
  obtain ⟨p, rfl, hp⟩ := mIsV_nat hv
  have HV := Lib.hid hv
  have HM : Hid (mNamesIn ds b p = (mIn ds p).map (·.name)) := Lib.hid (by unfold mNamesIn; rw [hv, if_pos rfl, Int.toNat_natCast])
  have HL : Hid ((mIn ds p).length ≤ 1048576) := Lib.hid (by have := mIn_len ds p; omega)
  have HLS : Hid ((mSg ds).length ≤ 1048576) := Lib.hid (by have := mSg_len ds; omega)
  have HIN : Hid (∀ d ∈ mSg ds, inR d) := Lib.hid (mSg_in (vFlag_in (mIsV_flag hv)))
  have HOK2 : Hid (∀ d ∈ mIn ds p, d.ok) := Lib.hid fun d hd => mSg_ok HOK.out d (mWithin_mem hd)
  clear hv
  go_enter Tryz.func18, Tryz.ntmps18
  go_wp2_with fail
  refine (implIsV_v ds b p _ _ _ _ HF.out.sd hn HV.out).mono ?_
  rintro e w1 ⟨rfl, hb⟩
  have HF1 := Lib.hid (HF.out.call hb)
  have c0 := HF1.out.c0
  have c1 := HF1.out.c1
  clear hb HF
  go_wp2_with fail
  refine (implSg_any ds _ _ _ _ HF1.out.sd).mono ?_
  rintro e w2 ⟨A2, k2, rfl, ho, hb⟩
  have HS2 := Lib.hid (sd_of_own ho (mSg_ok HOK.out))
  have HB2 := Lib.hid (HF1.out.after hb)
  clear ho hb
  go_wp2_with fail
  refine (implWithin_any (mSg ds) p _ _ _ _ HS2.out HIN.out HLS.out hp).mono ?_
  rintro e w3 ⟨A3, k3, rfl, ho, hb⟩
  have HS3 := Lib.hid (sd_of_own ho HOK2.out)
  have HB3 : Hid (Below w.heap.size w w3) := Lib.hid (HB2.out.trans (hb.mono HB2.out.size))
  clear ho hb
  go_wp2_with fail
  refine (implNames_any (mIn ds p) _ _ _ _ HS3.out HL.out).mono ?_
  rintro e w4 ⟨A4, k4, rfl, ho, hb⟩
  have HO4 := Lib.hid ho
  have HB4 := Lib.hid hb
  clear ho hb
  go_wp2
  go_ret
  exact ⟨A4, k4, by rw [HM.out, List.length_map]; rfl, by rw [HM.out, List.length_map]; rw [List.length_map] at HO4; exact own_base HO4.out HB3.out.size, HB3.out.trans (HB4.out.mono HB3.out.size)⟩

set_option maxHeartbeats 2000000 in
theorem implRestIn_v (ds : List D) (b : Int) (x : Int) (A : Option Addr) (m c : Nat) (w : World) (hr : SD w w.heap.size A m c ds) (hn : m ≤ 1048576) {r : Int} (hm : mRestIn ds b x = r) :
    Calls Tryz.prog 16 #[.agg #[.slice A m c, .int .i64 b], .int .i64 x] w (fun e w' => e = .returned (.int .i64 r) ∧ Below w.heap.size w w') := by
  subst hm
  have HF := Lib.hid (FB.start hr b)
  have HOK := Lib.hid hr.ok
  clear hr
  cases hv : mIsV ds b x
  · have HV := Lib.hid hv
    have HM : Hid (mRestIn ds b x = -1) := Lib.hid (if_no hv)
    clear hv
    go_enter Tryz.func16, Tryz.ntmps16
    go_wp2_with (go_at_call 12; refine (implIsV_v ds b x _ _ _ _ HF.out.sd hn HV.out).mono ?_; rintro e w' ⟨rfl, hb⟩)
    go_ret
    exact ⟨by rw [HM.out]; first | done | rfl, HF.out.after hb⟩
  obtain ⟨p, rfl, hp⟩ := mIsV_nat hv
  have HV := Lib.hid hv
  have hin : ∀ d ∈ mSg ds, inR d := mSg_in (vFlag_in (mIsV_flag hv))
  obtain ⟨z, hz⟩ : ∃ z, mMask (mSg ds) = z := ⟨_, rfl⟩
  have hz4 : z < 4096 := by rw [← hz]; exact mMask_lt12 hin
  obtain ⟨r, hr⟩ : ∃ r, nl p z = r := ⟨_, rfl⟩
  have hnl := i64_andNot_nat p z (by omega) (by omega)
  rw [hr] at hnl
  have HM : Hid (mRestIn ds b p = (r : Int)) := Lib.hid (by unfold mRestIn; rw [hv, if_pos rfl, Int.toNat_natCast, hz, hr])
  have HIN := Lib.hid (small40 hin)
  have HZ := Lib.hid hz
  clear hv hz hr hin
  go_enter Tryz.func16, Tryz.ntmps16
  go_wp2_with fail
  refine (implIsV_v ds b p _ _ _ _ HF.out.sd hn HV.out).mono ?_
  rintro e w1 ⟨rfl, hb⟩
  have HF1 := Lib.hid (HF.out.call hb)
  have c0 := HF1.out.c0
  have c1 := HF1.out.c1
  clear hb HF
  go_wp2_with fail
  refine (implSg_any ds _ _ _ _ HF1.out.sd).mono ?_
  rintro e w2 ⟨A2, k2, rfl, ho, hb⟩
  have HS2 := Lib.hid (sd_of_own ho (mSg_ok HOK.out))
  have HB2 := Lib.hid (HF1.out.after hb)
  clear ho hb
  go_wp2_with fail
  refine (implMask_v (mSg ds) _ _ _ _ HS2.out HIN.out HZ.out).mono ?_
  rintro e w3 ⟨rfl, hb⟩
  have HB3 : Hid (Below w.heap.size w w3) := Lib.hid (HB2.out.trans (hb.mono HB2.out.size))
  clear hb
  go_wp2
  go_ret
  exact ⟨by rw [HM.out]; first | done | rfl, HB3.out⟩

end Go.Proofs.YtboehlffbibgmaaGreatDoor
