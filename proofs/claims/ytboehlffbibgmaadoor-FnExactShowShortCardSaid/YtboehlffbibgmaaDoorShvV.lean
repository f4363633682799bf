import Derived.Test.YtboehlffbibgmaaDoorShvS
import Derived.Test.YtboehlffbibgmaaDoorShvI
namespace Go.Proofs.YtboehlffbibgmaaDoor
open Go.RowKit
set_option linter.unusedVariables false
set_option linter.unusedSimpArgs false
set_option maxRecDepth 100000

theorem mShow_no {ds : List D} {b x : Int} (h : mIsV ds b x = false) : mShowV ds b x = ⟨#[]⟩ := by unfold mShowV; rw [h]; rfl
theorem mShowSh_no {ds : List D} {b x : Int} (h : mIsV ds b x = false) : mShowSh ds b x = ⟨#[]⟩ := by unfold mShowSh; rw [h]; rfl
theorem sub_size {ds l : List D} {b : Int} (hv : vFlag ds b = true) (h : ∀ d ∈ l, d ∈ ds) : ∀ s ∈ l.map (·.name), s.size ≤ 8 := by
  intro s hs
  obtain ⟨d, hd, rfl⟩ := List.mem_map.1 hs
  have := flag_name6 hv (h d hd)
  omega
theorem mIn_in {ds : List D} {a : Nat} {d : D} (h : d ∈ mIn ds a) : d ∈ ds := (sgTo_in (List.mem_filter.1 h).1).1
theorem mShort_in {ds : List D} {a : Nat} {d : D} (h : d ∈ mShortL (mFit ds a)) : d ∈ ds := mFit_mem ((mShortL_mem _).2 d h)

/-! ### the program -/
set_option maxHeartbeats 4000000 in
theorem implShowV_any (ds : List D) (b x : Int) (A : Option Addr) (m c : Nat) (w : World) (hr : SD w w.heap.size A m c ds) (hn : m ≤ 1048576) (hT : P10 w) (hG : p10G < w.heap.size) :
    Calls Tryd.prog 11 #[.agg #[.slice A m c, .int .i64 b], .int .i64 x] w fun e w' => e = .returned (.string (mShowV ds b x)) ∧ Below w.heap.size w w' := by
  have HF := Lib.hid (FB.start hr b)
  have HOK := Lib.hid hr.ok
  have HT := Lib.hid hT
  clear hr hT
  cases hv : mIsV ds b x
  · have HV := Lib.hid hv
    have HM := Lib.hid (mShow_no hv)
    clear hv
    go_enter Tryd.func11, Tryd.ntmps11
    go_wp2_with (go_at_call 29; refine (implIsV_v ds b x _ _ _ _ HF.out.sd hn HV.out).mono ?_; rintro e w' ⟨rfl, hb⟩)
    go_ret
    exact ⟨by rw [HM.out]; first | done | rfl, HF.out.after hb⟩
  obtain ⟨p, rfl, hp⟩ := mIsV_nat hv
  have hfl := mIsV_flag hv
  have HV := Lib.hid hv
  have HFL := Lib.hid hfl
  have HM : Hid (mShowV ds b p = mText ds (mIn ds p) p) := Lib.hid (by unfold mShowV; rw [hv, if_pos rfl, Int.toNat_natCast])
  have hl12 := mIn_len ds p
  have HLS : Hid ((mSg ds).length ≤ 1048576) := Lib.hid (by have := mSg_len ds; omega)
  have HIN : Hid (∀ d ∈ mSg ds, inR d) := Lib.hid (mSg_in (vFlag_in hfl))
  have HIN2 : Hid (∀ d ∈ mIn ds p, inR d) := Lib.hid fun d hd => vFlag_in hfl d (mIn_in hd)
  have HS6 : Hid (∀ d ∈ mIn ds p, d.name.size ≤ 6) := Lib.hid fun d hd => flag_name6 hfl (mIn_in hd)
  have HOK2 : Hid (∀ d ∈ mIn ds p, d.ok) := Lib.hid fun d hd => mSg_ok HOK.out d (mWithin_mem hd)
  clear hv hfl
  go_enter Tryd.func11, Tryd.ntmps11
  go_wp2_with fail
  refine (implIsV_v ds b p _ _ _ _ HF.out.sd hn HV.out).mono ?_
  rintro e w1 ⟨rfl, hb⟩
  have HF1 := Lib.hid (HF.out.call hb)
  have c0 := HF1.out.c0
  have c1 := HF1.out.c1
  clear hb HF
  go_wp2_with fail
  go_region_held3 (fun w' => w'.cell? ⟨w.heap.size, 0, none⟩ = some (.slice A m c) ∧ w'.cell? ⟨w.heap.size, 1, none⟩ = some (.int .i64 b))
    (first | go_keep | exact ⟨c0, c1⟩ | exact ⟨k0, k1⟩ | exact ⟨l0, l1⟩ | exact ⟨m0, m1⟩)
    (first
    | (go_at_call 31; refine (implSg_any ds _ _ _ _ (HF1.out.drewN 1).sd).mono ?_; rintro e w2 ⟨A2, q2, rfl, ho, hb⟩; replace hb : Below w1.heap.size w1 w2 := (by first | exact hb | exact undrew hb); have HF2 := Lib.hid (HF1.out.call hb); have HS2 := Lib.hid (sd_of_own ho (mSg_ok HOK.out)); have k0 := HF2.out.c0; have k1 := HF2.out.c1; clear ho hb)
    | (go_at_call 32; refine (implWithin_any (mSg ds) p _ _ _ _ HS2.out HIN.out HLS.out hp).mono ?_; rintro e w3 ⟨A3, q3, rfl, ho, hb⟩; have HF3 := Lib.hid (HF2.out.call hb); have HS3 := Lib.hid (sd_of_own ho HOK2.out); have l0 := HF3.out.c0; have l1 := HF3.out.c1; clear ho hb)
    | (go_at_call 30; refine (implShown_any ds (mIn ds p) b p _ _ _ _ _ _ _ HF3.out.sd HS3.out hn (mIsV_flag HV.out) HIN2.out hp HS6.out (by omega) (HT.out.below HF3.out.bel hG) (Nat.lt_of_lt_of_le hG HF3.out.bel.size)).mono ?_; rintro e w4 ⟨rfl, hb⟩; have HF4 := Lib.hid (HF3.out.call hb); have m0 := HF4.out.c0; have m1 := HF4.out.c1; clear hb))
  have HB4 := Lib.hid HF4.out.bel
  go_wp2
  go_ret
  rw [HM.out]
  exact ⟨rfl, HB4.out⟩
set_option maxHeartbeats 4000000 in
theorem implShowSh_any (ds : List D) (b x : Int) (A : Option Addr) (m c : Nat) (w : World) (hr : SD w w.heap.size A m c ds) (hn : m ≤ 1048576) (hT : P10 w) (hG : p10G < w.heap.size) :
    Calls Tryd.prog 16 #[.agg #[.slice A m c, .int .i64 b], .int .i64 x] w fun e w' => e = .returned (.string (mShowSh ds b x)) ∧ Below w.heap.size w w' := by
  have HF := Lib.hid (FB.start hr b)
  have HOK := Lib.hid hr.ok
  have HT := Lib.hid hT
  have HLEN := Lib.hid hr.len
  clear hr hT
  cases hv : mIsV ds b x
  · have HV := Lib.hid hv
    have HM := Lib.hid (mShowSh_no hv)
    clear hv
    go_enter Tryd.func16, Tryd.ntmps16
    go_wp2_with (go_at_call 29; refine (implIsV_v ds b x _ _ _ _ HF.out.sd hn HV.out).mono ?_; rintro e w' ⟨rfl, hb⟩)
    go_ret
    exact ⟨by rw [HM.out]; first | done | rfl, HF.out.after hb⟩
  obtain ⟨p, rfl, hp⟩ := mIsV_nat hv
  have hfl := mIsV_flag hv
  have HV := Lib.hid hv
  have HM : Hid (mShowSh ds b p = mText ds (mShortL (mFit ds p)) p) := Lib.hid (by unfold mShowSh; rw [hv, if_pos rfl, Int.toNat_natCast])
  have hl12 : (mShortL (mFit ds p)).length ≤ 12 := by have := (mShortL_mem (mFit ds p)).1; have := mFit_len ds p; have := vFlag_len hfl; omega
  have hm1 : m ≤ 1000 := by have := vFlag_len hfl; have := HLEN.out; omega
  have HIN : Hid (∀ d ∈ ds, inR d) := Lib.hid (vFlag_in hfl)
  have HIN2 : Hid (∀ d ∈ mShortL (mFit ds p), inR d) := Lib.hid fun d hd => vFlag_in hfl d (mShort_in hd)
  have HS6 : Hid (∀ d ∈ mShortL (mFit ds p), d.name.size ≤ 6) := Lib.hid fun d hd => flag_name6 hfl (mShort_in hd)
  clear hv hfl
  go_enter Tryd.func16, Tryd.ntmps16
  go_wp2_with fail
  refine (implIsV_v ds b p _ _ _ _ HF.out.sd hn HV.out).mono ?_
  rintro e w1 ⟨rfl, hb⟩
  have HF1 := Lib.hid (HF.out.call hb)
  have c0 := HF1.out.c0
  have c1 := HF1.out.c1
  clear hb HF
  go_wp2_with fail
  go_region_held3 (fun w' => w'.cell? ⟨w.heap.size, 0, none⟩ = some (.slice A m c) ∧ w'.cell? ⟨w.heap.size, 1, none⟩ = some (.int .i64 b))
    (first | go_keep | exact ⟨c0, c1⟩ | exact ⟨k0, k1⟩ | exact ⟨m0, m1⟩)
    (first
    | (go_at_call 45; refine (shortest_any ds b p _ _ _ _ (HF1.out.drewN 1).sd HIN.out hm1 hp).mono ?_; rintro e w2 ⟨A2, q2, rfl, hs, hb⟩; replace hb : Below w1.heap.size w1 w2 := (by first | exact hb | exact undrew hb); have HF2 := Lib.hid (HF1.out.call hb); have HS2 := Lib.hid hs; have k0 := HF2.out.c0; have k1 := HF2.out.c1; clear hs hb)
    | (go_at_call 30; refine (implShown_any ds (mShortL (mFit ds p)) b p _ _ _ _ _ _ _ HF2.out.sd HS2.out hn (mIsV_flag HV.out) HIN2.out hp HS6.out (by omega) (HT.out.below HF2.out.bel hG) (Nat.lt_of_lt_of_le hG HF2.out.bel.size)).mono ?_; rintro e w4 ⟨rfl, hb⟩; have HF4 := Lib.hid (HF2.out.call hb); have m0 := HF4.out.c0; have m1 := HF4.out.c1; clear hb))
  have HB4 := Lib.hid HF4.out.bel
  go_wp2
  go_ret
  rw [HM.out]
  exact ⟨rfl, HB4.out⟩

/-! ### the model -/
set_option maxHeartbeats 8000000 in
theorem shown_any (ds : List D) (b : Int) (p : Nat) (A : Option Addr) (m c : Nat) (w : World) (hr : SD w w.heap.size A m c ds) (hv : vFlag ds b = true) (hp : p < 4096) :
    Calls Tryd.prog 27 #[.agg #[.slice A m c, .int .i64 b], .int .i64 p] w fun e w' => e = .returned (.string (mText ds (mIn ds p) p)) ∧ Below w.heap.size w w' := by
  have HF := Lib.hid (FB.start hr b)
  have HOK := Lib.hid hr.ok
  clear hr
  have HM : Hid (mText ds (mIn ds p) p = textW ds ((mIn ds p).map (·.name) ++ restW (nl p (mMask (mIn ds p))))) := Lib.hid rfl
  have hl12 := mIn_len ds p
  have HIN2 : Hid (∀ d ∈ mIn ds p, inR d) := Lib.hid fun d hd => vFlag_in hv d (mIn_in hd)
  have HOK2 : Hid (∀ d ∈ mIn ds p, d.ok) := Lib.hid fun d hd => HOK.out d (mIn_in hd)
  have HS8 := Lib.hid (sub_size hv (fun d hd => mIn_in (a := p) hd))
  have HIA := Lib.hid (fun (A : Option Addr) (n c : Nat) (w : World) (hr : SD w w.heap.size A n c ds) => inside_any ds p A n c w hr hp)
  unfold DefsP at HIA
  generalize mIn ds p = l at *
  have HWL : Hid ((l.map (·.name)).length ≤ 100) := Lib.hid (by rw [List.length_map]; omega)
  obtain ⟨k, hk⟩ : ∃ k, mMask l = k := ⟨_, rfl⟩
  have hk4 : k < 4096 := by rw [← hk]; exact mMask_lt12 HIN2.out
  obtain ⟨r, hr⟩ : ∃ r, nl p k = r := ⟨_, rfl⟩
  have hr4 : r < 4096 := by rw [← hr]; exact nl_lt hp
  have HM2 : Hid (mText ds l p = textW ds (l.map (·.name) ++ restW r)) := Lib.hid (by rw [HM.out, hk, hr])
  have HK := Lib.hid hk
  have HR := Lib.hid hr
  clear hk hr HM
  have HOKS : Hid (∀ s ∈ l.map (·.name), s.size ≤ maxLen) := Lib.hid (fun s hs => by have := HS8.out s hs; unfold maxLen; omega)
  have HNM := Lib.hid (fun (A : Option Addr) (n c : Nat) (w : World) (hr : SD w w.heap.size A n c l) (hn : n ≤ 1048576) => namesOf_any l A c n w hr hn)
  unfold StrsP at HNM
  rw [HM2.out]
  clear HM2
  generalize l.map (·.name) = ws at *
  have e0 := HF.out.c0
  have e1 := HF.out.c1
  go_enter Tryd.func27, Tryd.ntmps27
  go_wp2_with fail
  refine (HIA.out _ _ _ _ HF.out.sd).mono ?_
  rintro e w1 ⟨A1, c1, rfl, ho, hb⟩
  have HF1 := Lib.hid (HF.out.call hb)
  have HS1 := Lib.hid (sd_of_own ho HOK2.out)
  have f0 := HF1.out.c0
  clear ho hb HF HIA e0 e1
  go_wp2_with fail
  go_region_held3 (fun w' => w'.cell? ⟨w.heap.size, 0, none⟩ = some (.slice A m c))
    (first | go_keep | exact f0 | exact g0 | exact h0 | exact i0 | exact j0)
    (first
    | (go_at_call 42; refine (HNM.out _ _ _ _ (HS1.out.drewN 1) (by omega)).mono ?_; rintro e w2 ⟨A2, c2, rfl, ho, hb⟩; replace hb : Below w1.heap.size w1 w2 := (by first | exact hb | exact undrew hb); have HF2 := Lib.hid (HF1.out.call hb); have HS2 := Lib.hid ((HS1.out.below hb).call hb.size); have HT2 := Lib.hid (ss_of_own ho HOKS.out); have g0 := HF2.out.c0; clear ho hb)
    | (go_at_call 44; refine (mask_any l _ _ _ _ HS2.out HIN2.out HK.out).mono ?_; rintro e w3 ⟨rfl, rfl⟩; have h0 := HF2.out.c0)
    | (go_at_call 43; refine (less_any p k _ hp hk4 HR.out).mono ?_; rintro e w4 ⟨rfl, rfl⟩; have i0 := HF2.out.c0)
    | (go_at_call 41; refine (withRest_any ds ws r _ _ _ _ _ _ _ HF2.out.sd HT2.out hr4 HS8.out HWL.out).mono ?_; rintro e w5 ⟨rfl, hb⟩; have HF5 := Lib.hid (HF2.out.call hb); have j0 := HF5.out.c0; clear hb))
  have HB5 := Lib.hid HF5.out.bel
  go_wp2
  go_ret
  exact ⟨rfl, HB5.out⟩
set_option maxHeartbeats 4000000 in
theorem specShowV_any (ds : List D) (b x : Int) (A : Option Addr) (m c : Nat) (w : World) (hr : SD w w.heap.size A m c ds) :
    Calls Tryd.prog 9 #[.agg #[.slice A m c, .int .i64 b], .int .i64 x] w fun e w' => e = .returned (.string (mShowV ds b x)) ∧ Below w.heap.size w w' := by
  have HF := Lib.hid (FB.start hr b)
  clear hr
  cases hv : mIsV ds b x
  · have HV := Lib.hid hv
    have HM := Lib.hid (mShow_no hv)
    clear hv
    go_enter Tryd.func9, Tryd.ntmps9
    go_wp2_with (go_at_call 26; refine (specIsV_v ds b x _ _ _ _ HF.out.sd HV.out).mono ?_; rintro e w' ⟨rfl, hb⟩)
    go_ret
    exact ⟨by rw [HM.out]; first | done | rfl, HF.out.after hb⟩
  obtain ⟨p, rfl, hp⟩ := mIsV_nat hv
  have HFL := Lib.hid (mIsV_flag hv)
  have HV := Lib.hid hv
  have HM : Hid (mShowV ds b p = mText ds (mIn ds p) p) := Lib.hid (by unfold mShowV; rw [hv, if_pos rfl, Int.toNat_natCast])
  clear hv
  go_enter Tryd.func9, Tryd.ntmps9
  go_wp2_with fail
  refine (specIsV_v ds b p _ _ _ _ HF.out.sd HV.out).mono ?_
  rintro e w1 ⟨rfl, hb⟩
  have HF1 := Lib.hid (HF.out.call hb)
  have c0 := HF1.out.c0
  have c1 := HF1.out.c1
  clear hb HF
  go_wp2_with fail
  refine (shown_any ds b p _ _ _ _ HF1.out.sd HFL.out hp).mono ?_
  rintro e w2 ⟨rfl, hb⟩
  have HB2 := Lib.hid (HF1.out.after hb)
  clear hb
  go_wp2
  go_ret
  rw [HM.out]
  exact ⟨rfl, HB2.out⟩
set_option maxHeartbeats 8000000 in
theorem specShowSh_any (ds : List D) (b x : Int) (A : Option Addr) (m c : Nat) (w : World) (hr : SD w w.heap.size A m c ds) :
    Calls Tryd.prog 15 #[.agg #[.slice A m c, .int .i64 b], .int .i64 x] w fun e w' => e = .returned (.string (mShowSh ds b x)) ∧ Below w.heap.size w w' := by
  have HF := Lib.hid (FB.start hr b)
  have HOK := Lib.hid hr.ok
  have HLEN := Lib.hid hr.len
  clear hr
  cases hv : mIsV ds b x
  · have HV := Lib.hid hv
    have HM := Lib.hid (mShowSh_no hv)
    clear hv
    go_enter Tryd.func15, Tryd.ntmps15
    go_wp2_with (go_at_call 26; refine (specIsV_v ds b x _ _ _ _ HF.out.sd HV.out).mono ?_; rintro e w' ⟨rfl, hb⟩)
    go_ret
    exact ⟨by rw [HM.out]; first | done | rfl, HF.out.after hb⟩
  obtain ⟨p, rfl, hp⟩ := mIsV_nat hv
  have hfl := mIsV_flag hv
  have HV := Lib.hid hv
  have HM : Hid (mShowSh ds b p = mText ds (mShortL (mFit ds p)) p) := Lib.hid (by unfold mShowSh; rw [hv, if_pos rfl, Int.toNat_natCast])
  have hl12 : (mShortL (mFit ds p)).length ≤ 12 := by have := (mShortL_mem (mFit ds p)).1; have := mFit_len ds p; have := vFlag_len hfl; omega
  have hm1 : m ≤ 1000 := by have := vFlag_len hfl; have := HLEN.out; omega
  have HIN : Hid (∀ d ∈ ds, inR d) := Lib.hid (vFlag_in hfl)
  have HIN2 : Hid (∀ d ∈ mShortL (mFit ds p), inR d) := Lib.hid fun d hd => vFlag_in hfl d (mShort_in hd)
  have HOK2 : Hid (∀ d ∈ mShortL (mFit ds p), d.ok) := Lib.hid fun d hd => HOK.out d (mShort_in hd)
  have HS8 := Lib.hid (sub_size hfl (fun d hd => mShort_in (a := p) hd))
  have HIA := Lib.hid (fun (A : Option Addr) (n c : Nat) (w : World) (hr : SD w w.heap.size A n c ds) (hn : n ≤ 1000) => short_any ds p A n c w hr HIN.out hn hp)
  unfold DefsP at HIA
  clear hv hfl
  generalize mShortL (mFit ds p) = l at *
  have HWL : Hid ((l.map (·.name)).length ≤ 100) := Lib.hid (by rw [List.length_map]; omega)
  obtain ⟨k, hk⟩ : ∃ k, mMask l = k := ⟨_, rfl⟩
  have hk4 : k < 4096 := by rw [← hk]; exact mMask_lt12 HIN2.out
  obtain ⟨r, hr⟩ : ∃ r, nl p k = r := ⟨_, rfl⟩
  have hr4 : r < 4096 := by rw [← hr]; exact nl_lt hp
  have HM2 : Hid (mShowSh ds b p = textW ds (l.map (·.name) ++ restW r)) := Lib.hid (by rw [HM.out]; unfold mText; rw [hk, hr])
  have HK := Lib.hid hk
  have HR := Lib.hid hr
  clear hk hr HM
  have HOKS : Hid (∀ s ∈ l.map (·.name), s.size ≤ maxLen) := Lib.hid (fun s hs => by have := HS8.out s hs; unfold maxLen; omega)
  have HNM := Lib.hid (fun (A : Option Addr) (n c : Nat) (w : World) (hr : SD w w.heap.size A n c l) (hn : n ≤ 1048576) => namesOf_any l A c n w hr hn)
  unfold StrsP at HNM
  rw [HM2.out]
  clear HM2
  generalize l.map (·.name) = ws at *
  go_enter Tryd.func15, Tryd.ntmps15
  go_wp2_with fail
  refine (specIsV_v ds b p _ _ _ _ HF.out.sd HV.out).mono ?_
  rintro e w0 ⟨rfl, hb⟩
  have HF0 := Lib.hid (HF.out.call hb)
  have c0 := HF0.out.c0
  clear hb HF
  go_wp2_with fail
  refine (HIA.out _ _ _ _ HF0.out.sd hm1).mono ?_
  rintro e w1 ⟨A1, c1, rfl, ho, hb⟩
  have HF1 := Lib.hid (HF0.out.call hb)
  have HS1 := Lib.hid (sd_of_own ho HOK2.out)
  have f0 := HF1.out.c0
  clear ho hb HF0 HIA c0
  go_wp2_with fail
  go_region_held3 (fun w' => w'.cell? ⟨w.heap.size, 0, none⟩ = some (.slice A m c))
    (first | go_keep | exact f0 | exact g0 | exact h0 | exact i0 | exact j0)
    (first
    | (go_at_call 42; refine (HNM.out _ _ _ _ (HS1.out.drewN 1) (by omega)).mono ?_; rintro e w2 ⟨A2, c2, rfl, ho, hb⟩; replace hb : Below w1.heap.size w1 w2 := (by first | exact hb | exact undrew hb); have HF2 := Lib.hid (HF1.out.call hb); have HS2 := Lib.hid ((HS1.out.below hb).call hb.size); have HT2 := Lib.hid (ss_of_own ho HOKS.out); have g0 := HF2.out.c0; clear ho hb)
    | (go_at_call 44; refine (mask_any l _ _ _ _ HS2.out HIN2.out HK.out).mono ?_; rintro e w3 ⟨rfl, rfl⟩; have h0 := HF2.out.c0)
    | (go_at_call 43; refine (less_any p k _ hp hk4 HR.out).mono ?_; rintro e w4 ⟨rfl, rfl⟩; have i0 := HF2.out.c0)
    | (go_at_call 41; refine (withRest_any ds ws r _ _ _ _ _ _ _ HF2.out.sd HT2.out hr4 HS8.out HWL.out).mono ?_; rintro e w5 ⟨rfl, hb⟩; have HF5 := Lib.hid (HF2.out.call hb); have j0 := HF5.out.c0; clear hb))
  have HB5 := Lib.hid HF5.out.bel
  go_wp2
  go_ret
  exact ⟨rfl, HB5.out⟩
end Go.Proofs.YtboehlffbibgmaaDoor
