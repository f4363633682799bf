import Derived.Test.YtcbhfaijlmckbaaConvT
import Derived.Test.YtcbhfaijlmckbaaAlgQ
namespace Go.Proofs.Ytcbhfaijlmckbaa
open Go.RowKit Go.Maps
set_option linter.unusedVariables false
set_option maxRecDepth 100000

set_option maxHeartbeats 4000000 in
theorem specSet_v (ds : List D) (ss : List ByteArray) (A : Option Addr) (n c : Nat) (w : World) (ha : SD w w.heap.size A n c ds) (As : Option Addr) (q cs : Nat) (hs : SS w w.heap.size As q cs ss) {r0 : Int} {r1 : Bool} (h0 : mSet ds ss = r0) (h1 : mSetOk ds ss = r1) :
    Calls Try.prog 28 #[.agg #[.slice A n c], .slice As q cs] w (fun en w' => en = .returned (.tuple #[.int .i64 r0, .bool r1]) ∧ Below w.heap.size w w') := by
  subst h0 h1
  have HRa := Lib.hid ha
  have HOA := Lib.hid ha.ok
  have HLA := Lib.hid ha.len
  clear ha
  have HSS := Lib.hid hs
  clear hs
  obtain ⟨va, hva⟩ : ∃ v, vEnum ds = v := ⟨_, rfl⟩
  have HV := Lib.hid hva
  obtain ⟨w0, hw⟩ : ∃ W : World, W = (w.alloc (.cells #[.slice A n c] 25)) := ⟨_, rfl⟩
  have hb : Below w.heap.size w w0 := by rw [hw]; exact ((Below.refl _ _).alloc (by first | exact Nat.le_refl _ | (simp; done) | (simp; omega)) _)
  have hs0 : w.heap.size + 1 ≤ w0.heap.size := by rw [hw]; simp
  have pa_0 : w0.cell? ⟨w.heap.size, 0, none⟩ = some (.slice A n c) := by rw [hw]; simp [go_sem]
  have HB_0 := Lib.hid hb
  have HW0 : Hid ((w.alloc (.cells #[.slice A n c] 25)) = w0) := Lib.hid hw.symm
  clear hb hw
  cases va
  · have HO : Hid (mSetOk ds ss = false) := Lib.hid (by unfold mSetOk; rw [hva]; rfl)
    have HM : Hid (mSet ds ss = 0) := Lib.hid (by unfold mSet; rw [hva]; rfl)
    clear hva
    go_enter Try.func28, Try.ntmps28
    go_wp2_with fail
    rw [HW0.out]
    refine (specVE_v ds _ _ _ _ ((HRa.out.below HB_0.out).call HB_0.out.size) HV.out).mono ?_
    rintro e w1 ⟨rfl, hb⟩
    have hs1 : w0.heap.size ≤ w1.heap.size := hb.size
    have pa_1 := keep1 hb pa_0
    have HB_1 : Hid (Below w.heap.size w w1) := Lib.hid (HB_0.out.trans (hb.mono HB_0.out.size))
    clear hb  pa_0 HB_0
    go_wp2
    go_ret2
    exact ⟨by rw [HM.out, HO.out]; first | done | rfl, HB_1.out⟩
  have HOO : Hid (mFromOk (mBits ds) 0 ss = mSetOk ds ss) := Lib.hid (by unfold mSetOk; rw [hva]; rfl)
  have HM : Hid (mFrom (mBits ds) 0 ss = mSet ds ss) := Lib.hid (by unfold mSet; rw [hva]; rfl)
  clear hva
  go_enter Try.func28, Try.ntmps28
  go_wp2_with fail
  rw [HW0.out]
  refine (specVE_v ds _ _ _ _ ((HRa.out.below HB_0.out).call HB_0.out.size) HV.out).mono ?_
  rintro e w1 ⟨rfl, hb⟩
  have hs1 : w0.heap.size ≤ w1.heap.size := hb.size
  have pa_1 := keep1 hb pa_0
  have HB_1 : Hid (Below w.heap.size w w1) := Lib.hid (HB_0.out.trans (hb.mono HB_0.out.size))
  clear hb  pa_0 HB_0
  go_wp2_with fail
  refine (rankDefs_any ds _ _ _ _ ((HRa.out.below HB_1.out).call HB_1.out.size) HV.out).mono ?_
  rintro e2 w2 ⟨A2, c2, rfl, ho, hb⟩
  have hs2 : w1.heap.size ≤ w2.heap.size := hb.size
  have pa_2 := keep1 hb pa_1
  have HB_2 : Hid (Below w.heap.size w w2) := Lib.hid (HB_1.out.trans (hb.mono HB_1.out.size))
  rw [← mBits_yes HV.out]
  rw [← mBits_yes HV.out] at ho
  have HO := Lib.hid ho
  have HS := Lib.hid (sd_of_own ho (mBits_ok HOA.out))
  clear ho hb HO pa_1 HB_1
  go_wp2_with fail
  refine (specFrom_v (mBits ds) 0 ss _ _ _ _ HS.out _ _ _ ((HSS.out.below HB_2.out).call HB_2.out.size) HM.out HOO.out).mono ?_
  rintro e w3 ⟨rfl, hb⟩
  have hs3 : w2.heap.size ≤ w3.heap.size := hb.size
  have pa_3 := keep1 hb pa_2
  have HB_3 : Hid (Below w.heap.size w w3) := Lib.hid (HB_2.out.trans (hb.mono HB_2.out.size))
  clear hb  pa_2 HB_2
  go_wp2
  go_ret2
  exact ⟨rfl, HB_3.out⟩

set_option maxHeartbeats 4000000 in
theorem specMemIn_any (ds : List D) (x : Int) (A : Option Addr) (n c : Nat) (w : World) (ha : SD w w.heap.size A n c ds) :
    Calls Try.prog 25 #[.agg #[.slice A n c], .int .i64 x] w (StrsP (mMemIn ds x) w) := by
  have HRa := Lib.hid ha
  have HOA := Lib.hid ha.ok
  have HLA := Lib.hid ha.len
  clear ha
  obtain ⟨va, hva⟩ : ∃ v, vEnum ds = v := ⟨_, rfl⟩
  have HV := Lib.hid hva
  obtain ⟨w0, hw⟩ : ∃ W : World, W = (w.alloc (.cells #[.slice A n c] 25)) := ⟨_, rfl⟩
  have hb : Below w.heap.size w w0 := by rw [hw]; exact ((Below.refl _ _).alloc (by first | exact Nat.le_refl _ | (simp; done) | (simp; omega)) _)
  have hs0 : w.heap.size + 1 ≤ w0.heap.size := by rw [hw]; simp
  have pa_0 : w0.cell? ⟨w.heap.size, 0, none⟩ = some (.slice A n c) := by rw [hw]; simp [go_sem]
  have HB_0 := Lib.hid hb
  have HW0 : Hid ((w.alloc (.cells #[.slice A n c] 25)) = w0) := Lib.hid hw.symm
  clear hb hw
  cases va
  · have HM : Hid (mMemIn ds x = []) := Lib.hid (by unfold mMemIn; rw [hva]; rfl)
    clear hva
    go_enter Try.func25, Try.ntmps25
    go_wp2_with fail
    rw [HW0.out]
    refine (specVE_v ds _ _ _ _ ((HRa.out.below HB_0.out).call HB_0.out.size) HV.out).mono ?_
    rintro e w1 ⟨rfl, hb⟩
    have hs1 : w0.heap.size ≤ w1.heap.size := hb.size
    have pa_1 := keep1 hb pa_0
    have HB_1 : Hid (Below w.heap.size w w1) := Lib.hid (HB_0.out.trans (hb.mono HB_0.out.size))
    clear hb  pa_0 HB_0
    go_wp2
    go_ret
    exact ⟨none, 0, by rw [HM.out]; rfl, by rw [HM.out]; exact World.ownsRow_nil _ _ _ _, HB_1.out⟩
  have HRD : Hid (∀ (A : Option Addr) (n c : Nat) (w : World), SD w w.heap.size A n c ds → Calls Try.prog 73 #[.agg #[.slice A n c]] w (DefsP (mBits ds) w)) := Lib.hid (by rw [mBits_yes hva]; exact fun A n c w h => rankDefs_any ds A n c w h hva)
  have HMM : Hid (mMemIn ds x = mNamesIn (mBits ds) 0 x) := Lib.hid (mMemIn_is ds x)
  have HOKB := Lib.hid (mBits_ok HOA.out)
  have HBL := Lib.hid (mBits_len ds)
  clear hva
  generalize mMemIn ds x = ans at *
  generalize mBits ds = bs at *
  obtain ⟨vx, hvx⟩ : ∃ v, mIsV bs 0 x = v := ⟨_, rfl⟩
  have HX := Lib.hid hvx
  cases vx
  · have HM : Hid (ans = []) := Lib.hid (by rw [HMM.out]; unfold mNamesIn; rw [hvx]; rfl)
    clear hvx
    go_enter Try.func25, Try.ntmps25
    go_wp2_with fail
    rw [HW0.out]
    refine (specVE_v ds _ _ _ _ ((HRa.out.below HB_0.out).call HB_0.out.size) HV.out).mono ?_
    rintro e w1 ⟨rfl, hb⟩
    have hs1 : w0.heap.size ≤ w1.heap.size := hb.size
    have pa_1 := keep1 hb pa_0
    have HB_1 : Hid (Below w.heap.size w w1) := Lib.hid (HB_0.out.trans (hb.mono HB_0.out.size))
    clear hb  pa_0 HB_0
    go_wp2_with fail
    refine (HRD.out _ _ _ _ ((HRa.out.below HB_1.out).call HB_1.out.size)).mono ?_
    rintro e2 w2 ⟨A2, c2, rfl, ho, hb⟩
    have hs2 : w1.heap.size ≤ w2.heap.size := hb.size
    have pa_2 := keep1 hb pa_1
    have HB_2 : Hid (Below w.heap.size w w2) := Lib.hid (HB_1.out.trans (hb.mono HB_1.out.size))
    have HS := Lib.hid (sd_of_own ho HOKB.out)
    clear ho hb pa_1 HB_1
    go_wp2_with fail
    obtain ⟨w3, hw⟩ : ∃ W : World, W = (w2.alloc (.cells #[.slice A2 bs.length c2, .int .i64 0] 62)) := ⟨_, rfl⟩
    have hb : Below w2.heap.size w2 w3 := by rw [hw]; exact (Below.refl _ _).alloc (Nat.le_refl _) _
    have hs3 : w2.heap.size + 1 ≤ w3.heap.size := by rw [hw]; simp
    have pa_3 := keep1 hb pa_2
    have HB_3 : Hid (Below w.heap.size w w3) := Lib.hid (HB_2.out.trans (hb.mono HB_2.out.size))
    have ca_3 : w3.cell? ⟨w2.heap.size, 0, none⟩ = some (.slice A2 bs.length c2) := by rw [hw]; simp [go_sem]
    have cb_3 : w3.cell? ⟨w2.heap.size, 1, none⟩ = some (.int .i64 0) := by rw [hw]; simp [go_sem]
    have lf_pa : (w2.alloc (.cells #[.slice A2 bs.length c2, .int .i64 0] 62)).cell? ⟨w.heap.size, 0, none⟩ = some (.slice A n c) := by rw [← hw]; exact pa_3
    have lf_ca : (w2.alloc (.cells #[.slice A2 bs.length c2, .int .i64 0] 62)).cell? ⟨w2.heap.size, 0, none⟩ = some (.slice A2 bs.length c2) := by rw [← hw]; exact ca_3
    have lf_cb : (w2.alloc (.cells #[.slice A2 bs.length c2, .int .i64 0] 62)).cell? ⟨w2.heap.size, 1, none⟩ = some (.int .i64 0) := by rw [← hw]; exact cb_3
    have HW3 : Hid ((w2.alloc (.cells #[.slice A2 bs.length c2, .int .i64 0] 62)) = w3) := Lib.hid hw.symm
    clear hb hw pa_2 HB_2
    have HS3 := Lib.hid ((HS.out.below (show Below w2.heap.size w2 w3 by rw [← HW3.out]; exact (Below.refl _ _).alloc (Nat.le_refl _) _)).call (by rw [← HW3.out]; simp))
    go_wp2_with fail
    rw [HW3.out]
    clear lf_pa lf_ca lf_cb
    refine (specIsV_v bs 0 x _ _ _ _ HS3.out HX.out).mono ?_
    rintro e w4 ⟨rfl, hb⟩
    have hs4 : w3.heap.size ≤ w4.heap.size := hb.size
    have pa_4 := keep1 hb pa_3
    have ca_4 := keep1 hb ca_3
    have cb_4 := keep1 hb cb_3
    have HB_4 : Hid (Below w.heap.size w w4) := Lib.hid (HB_3.out.trans (hb.mono HB_3.out.size))
    have HS4 := Lib.hid ((HS3.out.below hb).call hb.size)
    clear hb  pa_3 ca_3 cb_3 HB_3
    go_wp2
    go_ret
    exact ⟨none, 0, by rw [HM.out]; rfl, by rw [HM.out]; exact World.ownsRow_nil _ _ _ _, HB_4.out⟩
  obtain ⟨p, hp, hp4⟩ := mIsV_nat hvx
  subst hp
  have HM : Hid (ans = (mIn bs p).map (·.name)) := Lib.hid (by rw [HMM.out]; unfold mNamesIn; rw [hvx, if_pos rfl, Int.toNat_natCast])
  have HLL : Hid ((mIn bs p).length ≤ 1048576) := Lib.hid (by have := mIn_len bs p; omega)
  have HOK2 : Hid (∀ d ∈ mIn bs p, d.ok) := Lib.hid fun d hd => mSg_ok HOKB.out d (mWithin_mem hd)
  clear hvx
  go_enter Try.func25, Try.ntmps25
  go_wp2_with fail
  rw [HW0.out]
  refine (specVE_v ds _ _ _ _ ((HRa.out.below HB_0.out).call HB_0.out.size) HV.out).mono ?_
  rintro e w1 ⟨rfl, hb⟩
  have hs1 : w0.heap.size ≤ w1.heap.size := hb.size
  have pa_1 := keep1 hb pa_0
  have HB_1 : Hid (Below w.heap.size w w1) := Lib.hid (HB_0.out.trans (hb.mono HB_0.out.size))
  clear hb  pa_0 HB_0
  go_wp2_with fail
  refine (HRD.out _ _ _ _ ((HRa.out.below HB_1.out).call HB_1.out.size)).mono ?_
  rintro e2 w2 ⟨A2, c2, rfl, ho, hb⟩
  have hs2 : w1.heap.size ≤ w2.heap.size := hb.size
  have pa_2 := keep1 hb pa_1
  have HB_2 : Hid (Below w.heap.size w w2) := Lib.hid (HB_1.out.trans (hb.mono HB_1.out.size))
  have HS := Lib.hid (sd_of_own ho HOKB.out)
  clear ho hb pa_1 HB_1
  go_wp2_with fail
  obtain ⟨w3, hw⟩ : ∃ W : World, W = (w2.alloc (.cells #[.slice A2 bs.length c2, .int .i64 0] 62)) := ⟨_, rfl⟩
  have hb : Below w2.heap.size w2 w3 := by rw [hw]; exact (Below.refl _ _).alloc (Nat.le_refl _) _
  have hs3 : w2.heap.size + 1 ≤ w3.heap.size := by rw [hw]; simp
  have pa_3 := keep1 hb pa_2
  have HB_3 : Hid (Below w.heap.size w w3) := Lib.hid (HB_2.out.trans (hb.mono HB_2.out.size))
  have ca_3 : w3.cell? ⟨w2.heap.size, 0, none⟩ = some (.slice A2 bs.length c2) := by rw [hw]; simp [go_sem]
  have cb_3 : w3.cell? ⟨w2.heap.size, 1, none⟩ = some (.int .i64 0) := by rw [hw]; simp [go_sem]
  have lf_pa : (w2.alloc (.cells #[.slice A2 bs.length c2, .int .i64 0] 62)).cell? ⟨w.heap.size, 0, none⟩ = some (.slice A n c) := by rw [← hw]; exact pa_3
  have lf_ca : (w2.alloc (.cells #[.slice A2 bs.length c2, .int .i64 0] 62)).cell? ⟨w2.heap.size, 0, none⟩ = some (.slice A2 bs.length c2) := by rw [← hw]; exact ca_3
  have lf_cb : (w2.alloc (.cells #[.slice A2 bs.length c2, .int .i64 0] 62)).cell? ⟨w2.heap.size, 1, none⟩ = some (.int .i64 0) := by rw [← hw]; exact cb_3
  have HW3 : Hid ((w2.alloc (.cells #[.slice A2 bs.length c2, .int .i64 0] 62)) = w3) := Lib.hid hw.symm
  clear hb hw pa_2 HB_2
  have HS3 := Lib.hid ((HS.out.below (show Below w2.heap.size w2 w3 by rw [← HW3.out]; exact (Below.refl _ _).alloc (Nat.le_refl _) _)).call (by rw [← HW3.out]; simp))
  go_wp2_with fail
  rw [HW3.out]
  clear lf_pa lf_ca lf_cb
  refine (specIsV_v bs 0 p _ _ _ _ HS3.out HX.out).mono ?_
  rintro e w4 ⟨rfl, hb⟩
  have hs4 : w3.heap.size ≤ w4.heap.size := hb.size
  have pa_4 := keep1 hb pa_3
  have ca_4 := keep1 hb ca_3
  have cb_4 := keep1 hb cb_3
  have HB_4 : Hid (Below w.heap.size w w4) := Lib.hid (HB_3.out.trans (hb.mono HB_3.out.size))
  have HS4 := Lib.hid ((HS3.out.below hb).call hb.size)
  clear hb  pa_3 ca_3 cb_3 HB_3
  go_wp2_with fail
  refine (inside_any bs p _ _ _ _ HS4.out hp4).mono ?_
  rintro e5 w5 ⟨A5, c5, rfl, ho, hb⟩
  have HS5 := Lib.hid (sd_of_own ho HOK2.out)
  have HB5 : Hid (Below w.heap.size w w5) := Lib.hid (HB_4.out.trans (hb.mono HB_4.out.size))
  clear ho hb
  go_wp2_with fail
  refine (namesOf_any (mIn bs p) _ _ _ _ HS5.out HLL.out).mono ?_
  rintro e6 w6 ⟨A6, c6, rfl, ho, hb⟩
  have HO6 := Lib.hid ho
  have HB6 := Lib.hid hb
  clear ho hb
  go_wp2
  go_ret
  exact ⟨A6, c6, by rw [HM.out, List.length_map]; rfl, by rw [HM.out, List.length_map]; rw [List.length_map] at HO6; exact own_base HO6.out HB5.out.size, HB5.out.trans (HB6.out.mono HB5.out.size)⟩
end Go.Proofs.Ytcbhfaijlmckbaa
