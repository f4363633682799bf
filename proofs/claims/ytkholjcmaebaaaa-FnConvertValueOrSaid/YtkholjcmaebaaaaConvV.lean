import Derived.Test.YtkholjcmaebaaaaAlgJ
import Derived.Test.YtkholjcmaebaaaaAlgQ
namespace Go.Proofs.Ytkholjcmaebaaaa
open Go.RowKit Go.Maps
set_option linter.unusedVariables false
set_option maxRecDepth 100000


/-! ### converted values: plain facts -/
def cvRest (ds : List D) (b x : Int) : Bool := decide (mRestIn ds b x = 0)
def cvOk (ds : List D) (b : Int) (es : List D) (e x : Int) : Bool := cvRest ds b x && mFromOk es e (mNamesIn ds b x)
def mConv (ds : List D) (b : Int) (es : List D) (e x : Int) : Int := if cvRest ds b x then mFrom es e (mNamesIn ds b x) else 0
theorem cv_no {ds : List D} {b : Int} {es : List D} {e x : Int} (h : cvRest ds b x = false) : cvOk ds b es e x = false ∧ mConv ds b es e x = 0 := by unfold cvOk mConv; rw [h]; exact ⟨rfl, rfl⟩
theorem cv_yes {ds : List D} {b : Int} {es : List D} {e x : Int} (h : cvRest ds b x = true) : cvOk ds b es e x = mFromOk es e (mNamesIn ds b x) ∧ mConv ds b es e x = mFrom es e (mNamesIn ds b x) := by unfold cvOk mConv; rw [h]; exact ⟨rfl, rfl⟩
theorem cv_flag {ds : List D} {b : Int} {es : List D} {e x : Int} (h : vFlag es e = false) : cvOk ds b es e x = false ∧ mConv ds b es e x = 0 := by
  have h1 : mFromOk es e (mNamesIn ds b x) = false := by unfold mFromOk; rw [h]; rfl
  unfold cvOk mConv
  rw [h1, Bool.and_false]
  refine ⟨rfl, ?_⟩
  unfold mFrom
  rw [h1]
  cases cvRest ds b x <;> rfl
theorem rest_no {ds : List D} {b x : Int} (h : mIsV ds b x = false) : mRestIn ds b x = -1 := if_no h

set_option maxHeartbeats 8000000 in
theorem specConv_v (ds es : List D) (ba bb x : Int) (A B : Option Addr) (n c m e : Nat) (w : World) (ha : SD w w.heap.size A n c ds) (hb : SD w w.heap.size B m e es) {r0 : Int} {r1 : Bool} (h0 : mConv ds ba es bb x = r0) (h1 : cvOk ds ba es bb x = r1) :
    Calls Try.prog 17 #[.agg #[.slice A n c, .int .i64 ba], .agg #[.slice B m e, .int .i64 bb], .int .i64 x] w (fun en w' => en = .returned (.tuple #[.int .i64 r0, .bool r1]) ∧ Below w.heap.size w w') := by
  subst h0 h1
  have HRa := Lib.hid ha
  have HOA := Lib.hid ha.ok
  have HLA := Lib.hid ha.len
  clear ha
  have HRb := Lib.hid hb
  have HOB := Lib.hid hb.ok
  have HLB := Lib.hid hb.len
  clear hb
  obtain ⟨w0, hw⟩ : ∃ W : World, W = ((w.alloc (.cells #[.slice A n c, .int .i64 ba] 25)).alloc (.cells #[.slice B m e, .int .i64 bb] 25)) := ⟨_, rfl⟩
  have hb : Below w.heap.size w w0 := by rw [hw]; exact (((Below.refl _ _).alloc (by first | exact Nat.le_refl _ | (simp; done) | (simp; omega)) _).alloc (by first | exact Nat.le_refl _ | (simp; done) | (simp; omega)) _)
  have hs0 : w.heap.size + 2 ≤ w0.heap.size := by rw [hw]; simp
  have pa_0 : w0.cell? ⟨w.heap.size, 0, none⟩ = some (.slice A n c) := by rw [hw]; simp [go_sem]
  have qa_0 : w0.cell? ⟨w.heap.size, 1, none⟩ = some (.int .i64 ba) := by rw [hw]; simp [go_sem]
  have pb_0 : w0.cell? ⟨w.heap.size + 1, 0, none⟩ = some (.slice B m e) := by rw [hw]; simp [go_sem]
  have qb_0 : w0.cell? ⟨w.heap.size + 1, 1, none⟩ = some (.int .i64 bb) := by rw [hw]; simp [go_sem]
  have HB_0 := Lib.hid hb
  have HW0 : Hid (((w.alloc (.cells #[.slice A n c, .int .i64 ba] 25)).alloc (.cells #[.slice B m e, .int .i64 bb] 25)) = w0) := Lib.hid hw.symm
  clear hb hw
  obtain ⟨vx, hvx⟩ : ∃ v, mIsV ds ba x = v := ⟨_, rfl⟩
  have HX := Lib.hid hvx
  obtain ⟨vg, hvg⟩ : ∃ v, vFlag es bb = v := ⟨_, rfl⟩
  have HG := Lib.hid hvg
  cases vx
  · have HO : Hid (cvOk ds ba es bb x = false ∧ mConv ds ba es bb x = 0) := Lib.hid (cv_no (by unfold cvRest; rw [rest_no hvx]; rfl))
    clear hvx hvg
    go_enter Try.func17, Try.ntmps17
    go_wp2_with fail
    rw [HW0.out]
    refine (specIsV_v ds ba x _ _ _ _ ((HRa.out.below HB_0.out).call HB_0.out.size) HX.out).mono ?_
    rintro e w1 ⟨rfl, hb⟩
    have hs1 : w0.heap.size ≤ w1.heap.size := hb.size
    have pa_1 := keep1 hb pa_0
    have qa_1 := keep1 hb qa_0
    have pb_1 := keep1 hb pb_0
    have qb_1 := keep1 hb qb_0
    have HB_1 : Hid (Below w.heap.size w w1) := Lib.hid (HB_0.out.trans (hb.mono HB_0.out.size))
    clear hb  pa_0 qa_0 pb_0 qb_0 HB_0
    go_wp2
    go_ret2
    exact ⟨by rw [HO.out.1, HO.out.2]; first | done | rfl, HB_1.out⟩
  cases vg
  · have HO : Hid (cvOk ds ba es bb x = false ∧ mConv ds ba es bb x = 0) := Lib.hid (cv_flag hvg)
    clear hvx hvg
    go_enter Try.func17, Try.ntmps17
    go_wp2_with fail
    rw [HW0.out]
    refine (specIsV_v ds ba x _ _ _ _ ((HRa.out.below HB_0.out).call HB_0.out.size) HX.out).mono ?_
    rintro e w1 ⟨rfl, hb⟩
    have hs1 : w0.heap.size ≤ w1.heap.size := hb.size
    have pa_1 := keep1 hb pa_0
    have qa_1 := keep1 hb qa_0
    have pb_1 := keep1 hb pb_0
    have qb_1 := keep1 hb qb_0
    have HB_1 : Hid (Below w.heap.size w w1) := Lib.hid (HB_0.out.trans (hb.mono HB_0.out.size))
    clear hb  pa_0 qa_0 pb_0 qb_0 HB_0
    go_wp2_with fail
    refine (specVF_v es bb _ _ _ _ ((HRb.out.below HB_1.out).call HB_1.out.size) HG.out).mono ?_
    rintro e w2 ⟨rfl, hb⟩
    have hs2 : w1.heap.size ≤ w2.heap.size := hb.size
    have pa_2 := keep1 hb pa_1
    have qa_2 := keep1 hb qa_1
    have pb_2 := keep1 hb pb_1
    have qb_2 := keep1 hb qb_1
    have HB_2 : Hid (Below w.heap.size w w2) := Lib.hid (HB_1.out.trans (hb.mono HB_1.out.size))
    clear hb  pa_1 qa_1 pb_1 qb_1 HB_1
    go_wp2
    go_ret2
    exact ⟨by rw [HO.out.1, HO.out.2]; first | done | rfl, HB_2.out⟩
  obtain ⟨p, hp, hp4⟩ := mIsV_nat hvx
  subst hp
  have hin : ∀ d ∈ mIn ds p, inR d := fun d hd => mSg_in (vFlag_in (mIsV_flag hvx)) d (mWithin_mem hd)
  obtain ⟨z, hz⟩ : ∃ z, mMask (mIn ds p) = z := ⟨_, rfl⟩
  obtain ⟨q, hq⟩ : ∃ q, nl p z = q := ⟨_, rfl⟩
  have hrest : mRestIn ds ba p = (q : Int) := by unfold mRestIn; rw [hvx, if_pos rfl, Int.toNat_natCast, ← hq, ← hz, mIn_mask]
  have hz4 : z < 4096 := by rw [← hz]; exact mMask_lt12 hin
  have HIN := Lib.hid hin
  have HOK2 : Hid (∀ d ∈ mIn ds p, d.ok) := Lib.hid fun d hd => mSg_ok HOA.out d (mWithin_mem hd)
  have HZ := Lib.hid hz
  have HQ := Lib.hid hq
  have HLL : Hid ((mIn ds p).length ≤ 1048576) := Lib.hid (by have := mIn_len ds p; omega)
  have HNM : Hid (mNamesIn ds ba p = (mIn ds p).map (·.name)) := Lib.hid (by unfold mNamesIn; rw [hvx, if_pos rfl, Int.toNat_natCast])
  by_cases hq0 : 0 < q
  · have HO : Hid (cvOk ds ba es bb p = false ∧ mConv ds ba es bb p = 0) := Lib.hid (cv_no (by unfold cvRest; rw [hrest, decide_eq_false (by omega)]))
    clear hvx hvg hz hq hin hrest
    have hqi : (0 : Int) < (q : Int) := by omega
    go_enter Try.func17, Try.ntmps17
    go_wp2_with fail
    rw [HW0.out]
    refine (specIsV_v ds ba p _ _ _ _ ((HRa.out.below HB_0.out).call HB_0.out.size) HX.out).mono ?_
    rintro e w1 ⟨rfl, hb⟩
    have hs1 : w0.heap.size ≤ w1.heap.size := hb.size
    have pa_1 := keep1 hb pa_0
    have qa_1 := keep1 hb qa_0
    have pb_1 := keep1 hb pb_0
    have qb_1 := keep1 hb qb_0
    have HB_1 : Hid (Below w.heap.size w w1) := Lib.hid (HB_0.out.trans (hb.mono HB_0.out.size))
    clear hb  pa_0 qa_0 pb_0 qb_0 HB_0
    go_wp2_with fail
    refine (specVF_v es bb _ _ _ _ ((HRb.out.below HB_1.out).call HB_1.out.size) HG.out).mono ?_
    rintro e w2 ⟨rfl, hb⟩
    have hs2 : w1.heap.size ≤ w2.heap.size := hb.size
    have pa_2 := keep1 hb pa_1
    have qa_2 := keep1 hb qa_1
    have pb_2 := keep1 hb pb_1
    have qb_2 := keep1 hb qb_1
    have HB_2 : Hid (Below w.heap.size w w2) := Lib.hid (HB_1.out.trans (hb.mono HB_1.out.size))
    clear hb  pa_1 qa_1 pb_1 qb_1 HB_1
    go_wp2_with fail
    refine (inside_any ds p _ _ _ _ ((HRa.out.below HB_2.out).call HB_2.out.size) hp4).mono ?_
    rintro e3 w3 ⟨A3, c3, rfl, ho, hb⟩
    have hs3 : w2.heap.size ≤ w3.heap.size := hb.size
    have pa_3 := keep1 hb pa_2
    have qa_3 := keep1 hb qa_2
    have pb_3 := keep1 hb pb_2
    have qb_3 := keep1 hb qb_2
    have HB_3 : Hid (Below w.heap.size w w3) := Lib.hid (HB_2.out.trans (hb.mono HB_2.out.size))
    have HS3 := Lib.hid (sd_of_own ho HOK2.out)
    clear ho hb pa_2 qa_2 pb_2 qb_2 HB_2
    go_wp2_with fail
    refine (mask_any (mIn ds p) _ _ _ _ HS3.out HIN.out HZ.out).mono ?_
    rintro e4 w4 ⟨rfl, rfl⟩
    go_wp2_with fail
    refine (less_any p z _ hp4 hz4 HQ.out).mono ?_
    rintro e5 w5 ⟨rfl, rfl⟩
    go_wp2
    go_ret2
    exact ⟨by rw [HO.out.1, HO.out.2]; first | done | rfl, by first | exact HB_3.out | assumption⟩
  have HO : Hid (cvOk ds ba es bb p = mFromOk es bb ((mIn ds p).map (·.name)) ∧ mConv ds ba es bb p = mFrom es bb ((mIn ds p).map (·.name))) := Lib.hid (by rw [← HNM.out]; exact cv_yes (by unfold cvRest; rw [hrest, decide_eq_true (by omega)]))
  clear hvx hvg hz hq hin hrest
  have hqi : ¬ (0 : Int) < (q : Int) := by omega
  have HNO : Hid (∀ s ∈ (mIn ds p).map (·.name), s.size ≤ maxLen) := Lib.hid (by intro s hs; obtain ⟨d, hd, rfl⟩ := List.mem_map.1 hs; exact (HOK2.out d hd).1)
  go_enter Try.func17, Try.ntmps17
  go_wp2_with fail
  rw [HW0.out]
  refine (specIsV_v ds ba p _ _ _ _ ((HRa.out.below HB_0.out).call HB_0.out.size) HX.out).mono ?_
  rintro e w1 ⟨rfl, hb⟩
  have hs1 : w0.heap.size ≤ w1.heap.size := hb.size
  have pa_1 := keep1 hb pa_0
  have qa_1 := keep1 hb qa_0
  have pb_1 := keep1 hb pb_0
  have qb_1 := keep1 hb qb_0
  have HB_1 : Hid (Below w.heap.size w w1) := Lib.hid (HB_0.out.trans (hb.mono HB_0.out.size))
  clear hb  pa_0 qa_0 pb_0 qb_0 HB_0
  go_wp2_with fail
  refine (specVF_v es bb _ _ _ _ ((HRb.out.below HB_1.out).call HB_1.out.size) HG.out).mono ?_
  rintro e w2 ⟨rfl, hb⟩
  have hs2 : w1.heap.size ≤ w2.heap.size := hb.size
  have pa_2 := keep1 hb pa_1
  have qa_2 := keep1 hb qa_1
  have pb_2 := keep1 hb pb_1
  have qb_2 := keep1 hb qb_1
  have HB_2 : Hid (Below w.heap.size w w2) := Lib.hid (HB_1.out.trans (hb.mono HB_1.out.size))
  clear hb  pa_1 qa_1 pb_1 qb_1 HB_1
  go_wp2_with fail
  refine (inside_any ds p _ _ _ _ ((HRa.out.below HB_2.out).call HB_2.out.size) hp4).mono ?_
  rintro e3 w3 ⟨A3, c3, rfl, ho, hb⟩
  have hs3 : w2.heap.size ≤ w3.heap.size := hb.size
  have pa_3 := keep1 hb pa_2
  have qa_3 := keep1 hb qa_2
  have pb_3 := keep1 hb pb_2
  have qb_3 := keep1 hb qb_2
  have HB_3 : Hid (Below w.heap.size w w3) := Lib.hid (HB_2.out.trans (hb.mono HB_2.out.size))
  have HS3 := Lib.hid (sd_of_own ho HOK2.out)
  clear ho hb pa_2 qa_2 pb_2 qb_2 HB_2
  go_wp2_with fail
  refine (mask_any (mIn ds p) _ _ _ _ HS3.out HIN.out HZ.out).mono ?_
  rintro e4 w4 ⟨rfl, rfl⟩
  go_wp2_with fail
  refine (less_any p z _ hp4 hz4 HQ.out).mono ?_
  rintro e5 w5 ⟨rfl, rfl⟩
  go_wp2_with fail
  have HSB := Lib.hid ((HRb.out.below HB_3.out).call HB_3.out.size)
  have ea := pb_3
  have eb := qb_3
  go_region_held3 (fun w' => w'.cell? ⟨w.heap.size + 1, 0, none⟩ = some (.slice B m e) ∧ w'.cell? ⟨w.heap.size + 1, 1, none⟩ = some (.int .i64 bb))
    (first | go_keep | exact ⟨ea, eb⟩ | exact ⟨fa, fb⟩ | exact ⟨ga, gb⟩)
    (first
      | (go_at_call 83; refine (namesOf_any (mIn ds p) _ _ _ _ (by first | exact HS3.out | exact HS3.out.drew | exact HS3.out.drewN _) HLL.out).mono ?_; rintro e6 w6 ⟨A6, c6, rfl, ho, hb⟩; replace hb : Below w3.heap.size w3 w6 := (by first | exact hb | exact undrew hb); have fa := keep1 hb ea; have fb := keep1 hb eb; have HS6 := Lib.hid (ss_of_own ho HNO.out))
      | (go_at_call 82; refine (specFrom_v es bb ((mIn ds p).map (·.name)) _ _ _ _ ((HSB.out.below hb).call hb.size) _ _ _ (by first | exact HS6.out | (have h := HS6.out; simp only [List.length_map] at h; exact h)) rfl rfl).mono ?_; rintro e7 w7 ⟨rfl, hb7⟩; have ga := keep1 hb7 fa; have gb := keep1 hb7 fb))
  go_wp2
  go_ret2
  exact ⟨by rw [HO.out.1, HO.out.2]; first | done | rfl, (HB_3.out.trans (hb.mono HB_3.out.size)).trans (hb7.mono (HB_3.out.trans (hb.mono HB_3.out.size)).size)⟩

set_option maxHeartbeats 8000000 in
theorem implConv_v (ds es : List D) (ba bb x : Int) (A B : Option Addr) (n c m e : Nat) (w : World) (ha : SD w w.heap.size A n c ds) (hb : SD w w.heap.size B m e es) (hn : n ≤ 1048576) (hm : m ≤ 1048576) {r0 : Int} {r1 : Bool} (h0 : mConv ds ba es bb x = r0) (h1 : cvOk ds ba es bb x = r1) :
    Calls Try.prog 16 #[.agg #[.slice A n c, .int .i64 ba], .agg #[.slice B m e, .int .i64 bb], .int .i64 x] w (fun en w' => en = .returned (.tuple #[.int .i64 r0, .bool r1]) ∧ Below w.heap.size w w') := by
  subst h0 h1
  have HRa := Lib.hid ha
  have HOA := Lib.hid ha.ok
  have HLA := Lib.hid ha.len
  clear ha
  have HRb := Lib.hid hb
  have HOB := Lib.hid hb.ok
  have HLB := Lib.hid hb.len
  clear hb
  obtain ⟨w0, hw⟩ : ∃ W : World, W = ((w.alloc (.cells #[.slice A n c, .int .i64 ba] 25)).alloc (.cells #[.slice B m e, .int .i64 bb] 25)) := ⟨_, rfl⟩
  have hb : Below w.heap.size w w0 := by rw [hw]; exact (((Below.refl _ _).alloc (by first | exact Nat.le_refl _ | (simp; done) | (simp; omega)) _).alloc (by first | exact Nat.le_refl _ | (simp; done) | (simp; omega)) _)
  have hs0 : w.heap.size + 2 ≤ w0.heap.size := by rw [hw]; simp
  have pa_0 : w0.cell? ⟨w.heap.size, 0, none⟩ = some (.slice A n c) := by rw [hw]; simp [go_sem]
  have qa_0 : w0.cell? ⟨w.heap.size, 1, none⟩ = some (.int .i64 ba) := by rw [hw]; simp [go_sem]
  have pb_0 : w0.cell? ⟨w.heap.size + 1, 0, none⟩ = some (.slice B m e) := by rw [hw]; simp [go_sem]
  have qb_0 : w0.cell? ⟨w.heap.size + 1, 1, none⟩ = some (.int .i64 bb) := by rw [hw]; simp [go_sem]
  have HB_0 := Lib.hid hb
  have HW0 : Hid (((w.alloc (.cells #[.slice A n c, .int .i64 ba] 25)).alloc (.cells #[.slice B m e, .int .i64 bb] 25)) = w0) := Lib.hid hw.symm
  clear hb hw
  obtain ⟨q, hq⟩ : ∃ q, mRestIn ds ba x = q := ⟨_, rfl⟩
  have HQ := Lib.hid hq
  have HNO : Hid (∀ s ∈ mNamesIn ds ba x, s.size ≤ maxLen) := Lib.hid (mNamesIn_ok HOA.out)
  by_cases hq0 : q = 0
  · skip
    have HO : Hid (cvOk ds ba es bb x = mFromOk es bb (mNamesIn ds ba x) ∧ mConv ds ba es bb x = mFrom es bb (mNamesIn ds ba x)) := Lib.hid (cv_yes (by unfold cvRest; rw [hq, decide_eq_true hq0]))
    subst hq0
    clear hq
    go_enter Try.func16, Try.ntmps16
    go_wp2_with fail
    rw [HW0.out]
    refine (implRestIn_v ds ba x _ _ _ _ ((HRa.out.below HB_0.out).call HB_0.out.size) hn HQ.out).mono ?_
    rintro e w1 ⟨rfl, hb⟩
    have hs1 : w0.heap.size ≤ w1.heap.size := hb.size
    have pa_1 := keep1 hb pa_0
    have qa_1 := keep1 hb qa_0
    have pb_1 := keep1 hb pb_0
    have qb_1 := keep1 hb qb_0
    have HB_1 : Hid (Below w.heap.size w w1) := Lib.hid (HB_0.out.trans (hb.mono HB_0.out.size))
    clear hb  pa_0 qa_0 pb_0 qb_0 HB_0
    go_wp2_with fail
    have HSA := Lib.hid ((HRa.out.below HB_1.out).call HB_1.out.size)
    have HSB := Lib.hid ((HRb.out.below HB_1.out).call HB_1.out.size)
    go_region_held3 (fun w' => w'.cell? ⟨w.heap.size, 0, none⟩ = some (.slice A n c) ∧ w'.cell? ⟨w.heap.size, 1, none⟩ = some (.int .i64 ba) ∧ w'.cell? ⟨w.heap.size + 1, 0, none⟩ = some (.slice B m e) ∧ w'.cell? ⟨w.heap.size + 1, 1, none⟩ = some (.int .i64 bb))
      (first | go_keep | exact ⟨pa_1, qa_1, pb_1, qb_1⟩ | exact ⟨f0, f1, f2, f3⟩ | exact ⟨g0, g1, g2, g3⟩)
      (first
        | (go_at_call 76; refine (implNamesIn_any ds ba x _ _ _ _ (by first | exact HSA.out | exact HSA.out.drew | exact HSA.out.drewN _) hn).mono ?_; rintro e6 w6 ⟨A6, c6, rfl, ho, hb⟩; replace hb : Below w1.heap.size w1 w6 := (by first | exact hb | exact undrew hb); have f0 := keep1 hb pa_1; have f1 := keep1 hb qa_1; have f2 := keep1 hb pb_1; have f3 := keep1 hb qb_1; have HS6 := Lib.hid (ss_of_own ho HNO.out))
        | (go_at_call 75; refine (implFrom_v es bb (mNamesIn ds ba x) _ _ _ _ ((HSB.out.below hb).call hb.size) _ _ _ HS6.out hm rfl rfl).mono ?_; rintro e7 w7 ⟨rfl, hb7⟩; have g0 := keep1 hb7 f0; have g1 := keep1 hb7 f1; have g2 := keep1 hb7 f2; have g3 := keep1 hb7 f3))
    go_wp2
    go_ret2
    exact ⟨by rw [HO.out.1, HO.out.2]; first | done | rfl, (HB_1.out.trans (hb.mono HB_1.out.size)).trans (hb7.mono (HB_1.out.trans (hb.mono HB_1.out.size)).size)⟩
  have HO : Hid (cvOk ds ba es bb x = false ∧ mConv ds ba es bb x = 0) := Lib.hid (cv_no (by unfold cvRest; rw [hq, decide_eq_false hq0]))
  clear hq
  go_enter Try.func16, Try.ntmps16
  go_wp2_with fail
  rw [HW0.out]
  refine (implRestIn_v ds ba x _ _ _ _ ((HRa.out.below HB_0.out).call HB_0.out.size) hn HQ.out).mono ?_
  rintro e w1 ⟨rfl, hb⟩
  have hs1 : w0.heap.size ≤ w1.heap.size := hb.size
  have pa_1 := keep1 hb pa_0
  have qa_1 := keep1 hb qa_0
  have pb_1 := keep1 hb pb_0
  have qb_1 := keep1 hb qb_0
  have HB_1 : Hid (Below w.heap.size w w1) := Lib.hid (HB_0.out.trans (hb.mono HB_0.out.size))
  clear hb  pa_0 qa_0 pb_0 qb_0 HB_0
  go_wp2
  go_ret2
  exact ⟨by rw [HO.out.1, HO.out.2]; first | done | rfl, HB_1.out⟩
end Go.Proofs.Ytkholjcmaebaaaa
