import Derived.Test.YtpmanbmhbfnefaaConvL
import Derived.Test.YtpmanbmhbfnefaaConvJ
namespace Go.Proofs.Ytpmanbmhbfnefaa
open Go.RowKit Go.Maps
set_option linter.unusedVariables false
set_option maxRecDepth 100000


theorem sd_none (w : World) (B : Nat) : SD w B none 0 0 [] := ⟨.inl rfl, rfl, Nat.le_refl _, by unfold maxLen; omega, fun d h => by cases h⟩


set_option maxHeartbeats 4000000 in
theorem implLook_v (ds : List D) (ss : List Int) (s : ByteArray) (A R : Option Addr) (n c q k : Nat) (w : World) (ha : SD w w.heap.size A n c ds) (hs : SI w w.heap.size R q k ss) (hn : n ≤ 1048576) {r0 : Int} {r1 : Bool} (h0 : mLook ds ss s = r0) (h1 : lkOk ds ss s = r1) :
    Calls Try.prog 22 #[.agg #[.slice A n c], .slice R q k, .string s] w (fun en w' => en = .returned (.tuple #[.int .i64 r0, .bool r1]) ∧ Below w.heap.size w w') := by
  subst h0 h1
  have HRa := Lib.hid ha
  have HOA := Lib.hid ha.ok
  have HLA := Lib.hid ha.len
  clear ha
  have hmx := hs.max
  have hcp := hs.cap
  unfold maxLen at hmx
  have hlq := hs.len
  subst hlq
  have HSI := Lib.hid hs
  clear hs
  obtain ⟨vt, hvt⟩ : ∃ v, tabN ds ss = v := ⟨_, rfl⟩
  have HVT := Lib.hid hvt
  obtain ⟨x, hx⟩ : ∃ v, fidx (isNm s) ds = v := ⟨_, rfl⟩
  have HX := Lib.hid hx
  obtain ⟨va, hva⟩ : ∃ v, vEnum ds = v := ⟨_, rfl⟩
  have HV := Lib.hid hva
  obtain ⟨w0, hw⟩ : ∃ W : World, W = (w.alloc (.cells #[.slice A n c] 32)) := ⟨_, rfl⟩
  have hb : Below w.heap.size w w0 := by rw [hw]; exact ((Below.refl _ _).alloc (by first | exact Nat.le_refl _ | (simp; done) | (simp; omega)) _)
  have hs0 : w.heap.size + 1 ≤ w0.heap.size := by rw [hw]; simp
  have pa_0 : w0.cell? ⟨w.heap.size, 0, none⟩ = some (.slice A n c) := by rw [hw]; simp [go_sem]
  have HB_0 := Lib.hid hb
  have HW0 : Hid ((w.alloc (.cells #[.slice A n c] 32)) = w0) := Lib.hid hw.symm
  clear hb hw
  cases vt
  · skip
    have HO : Hid (lkOk ds ss s = false) := Lib.hid (by unfold lkOk; rw [hvt]; rfl)
    have HM : Hid (mLook ds ss s = 0) := Lib.hid (by unfold mLook; rw [HO.out]; rfl)
    clear hvt hx hva
    go_enter Try.func22, Try.ntmps22
    go_wp2_with fail
    rw [HW0.out]
    refine (numTab_v ds ss A R n c _ k _ ((HRa.out.below HB_0.out).call HB_0.out.size) ((HSI.out.below HB_0.out).call HB_0.out.size) HVT.out).mono ?_
    rintro e1 w1 ⟨he1, hb⟩
    have hs1 : w0.heap.size ≤ w1.heap.size := hb.size
    replace he1 : e1 = .returned (.tuple #[.agg #[.slice none 0 0, .slice none 0 0], .bool false]) := he1
    subst he1
    have pa_1 := keep1 hb pa_0
    have HB_1 : Hid (Below w.heap.size w w1) := Lib.hid (HB_0.out.trans (hb.mono HB_0.out.size))
    clear hb pa_0 HB_0
    go_wp2_with fail
    obtain ⟨w2, hw⟩ : ∃ W : World, W = (w1.alloc (.cells #[.slice none 0 0, .slice none 0 0] 101)) := ⟨_, rfl⟩
    have hb : Below w1.heap.size w1 w2 := by rw [hw]; exact (Below.refl _ _).alloc (Nat.le_refl _) _
    have hs2 : w1.heap.size + 1 ≤ w2.heap.size := by rw [hw]; simp
    have pa_2 := keep1 hb pa_1
    have HB_2 : Hid (Below w.heap.size w w2) := Lib.hid (HB_1.out.trans (hb.mono HB_1.out.size))
    have ta_2 : w2.cell? ⟨w1.heap.size, 0, none⟩ = some (.slice none 0 0) := by rw [hw]; simp [go_sem]
    have tc_2 : w2.cell? ⟨w1.heap.size, 1, none⟩ = some (.slice none 0 0) := by rw [hw]; simp [go_sem]
    have lf_pa : (w1.alloc (.cells #[.slice none 0 0, .slice none 0 0] 101)).cell? ⟨w.heap.size, 0, none⟩ = some (.slice A n c) := by rw [← hw]; exact pa_2
    have lf_ta : (w1.alloc (.cells #[.slice none 0 0, .slice none 0 0] 101)).cell? ⟨w1.heap.size, 0, none⟩ = some (.slice none 0 0) := by rw [← hw]; exact ta_2
    have lf_tc : (w1.alloc (.cells #[.slice none 0 0, .slice none 0 0] 101)).cell? ⟨w1.heap.size, 1, none⟩ = some (.slice none 0 0) := by rw [← hw]; exact tc_2
    have HW2 : Hid ((w1.alloc (.cells #[.slice none 0 0, .slice none 0 0] 101)) = w2) := Lib.hid hw.symm
    clear hb hw pa_1 HB_1
    go_wp2_with fail
    rw [HW2.out]
    clear lf_pa lf_ta lf_tc
    refine (ofI_no [] s none none 0 0 0 0 _ (sd_none _ _) (v := true) (x := -1) rfl rfl (.inr (by decide))).mono ?_
    rintro e w3 ⟨rfl, hb⟩
    have hs3 : w2.heap.size ≤ w3.heap.size := hb.size
    have pa_3 := keep1 hb pa_2
    have ta_3 := keep1 hb ta_2
    have tc_3 := keep1 hb tc_2
    have HB_3 : Hid (Below w.heap.size w w3) := Lib.hid (HB_2.out.trans (hb.mono HB_2.out.size))
    clear hb  pa_2 ta_2 tc_2 HB_2
    go_wp2
    go_ret2
    exact ⟨by rw [HM.out, HO.out]; first | done | rfl, HB_3.out⟩
  by_cases hxn : x < 0
  · skip
    have HO : Hid (lkOk ds ss s = false) := Lib.hid (by unfold lkOk; rw [hx, decide_eq_false (p := 0 ≤ x) (by omega), Bool.and_false])
    have HM : Hid (mLook ds ss s = 0) := Lib.hid (by unfold mLook; rw [HO.out]; rfl)
    have HXN := Lib.hid hxn
    clear hvt hx hva hxn
    go_enter Try.func22, Try.ntmps22
    go_wp2_with fail
    rw [HW0.out]
    refine (numTab_v ds ss A R n c _ k _ ((HRa.out.below HB_0.out).call HB_0.out.size) ((HSI.out.below HB_0.out).call HB_0.out.size) HVT.out).mono ?_
    rintro e1 w1 ⟨he1, hb⟩
    have hs1 : w0.heap.size ≤ w1.heap.size := hb.size
    replace he1 : e1 = .returned (.tuple #[.agg #[.slice A n c, .slice R ss.length k], .bool true]) := he1
    subst he1
    have pa_1 := keep1 hb pa_0
    have HB_1 : Hid (Below w.heap.size w w1) := Lib.hid (HB_0.out.trans (hb.mono HB_0.out.size))
    clear hb pa_0 HB_0
    go_wp2_with fail
    obtain ⟨w2, hw⟩ : ∃ W : World, W = (w1.alloc (.cells #[.slice A n c, .slice R ss.length k] 101)) := ⟨_, rfl⟩
    have hb : Below w1.heap.size w1 w2 := by rw [hw]; exact (Below.refl _ _).alloc (Nat.le_refl _) _
    have hs2 : w1.heap.size + 1 ≤ w2.heap.size := by rw [hw]; simp
    have pa_2 := keep1 hb pa_1
    have HB_2 : Hid (Below w.heap.size w w2) := Lib.hid (HB_1.out.trans (hb.mono HB_1.out.size))
    have ta_2 : w2.cell? ⟨w1.heap.size, 0, none⟩ = some (.slice A n c) := by rw [hw]; simp [go_sem]
    have tc_2 : w2.cell? ⟨w1.heap.size, 1, none⟩ = some (.slice R ss.length k) := by rw [hw]; simp [go_sem]
    have lf_pa : (w1.alloc (.cells #[.slice A n c, .slice R ss.length k] 101)).cell? ⟨w.heap.size, 0, none⟩ = some (.slice A n c) := by rw [← hw]; exact pa_2
    have lf_ta : (w1.alloc (.cells #[.slice A n c, .slice R ss.length k] 101)).cell? ⟨w1.heap.size, 0, none⟩ = some (.slice A n c) := by rw [← hw]; exact ta_2
    have lf_tc : (w1.alloc (.cells #[.slice A n c, .slice R ss.length k] 101)).cell? ⟨w1.heap.size, 1, none⟩ = some (.slice R ss.length k) := by rw [← hw]; exact tc_2
    have HW2 : Hid ((w1.alloc (.cells #[.slice A n c, .slice R ss.length k] 101)) = w2) := Lib.hid hw.symm
    clear hb hw pa_1 HB_1
    go_wp2_with fail
    rw [HW2.out]
    clear lf_pa lf_ta lf_tc
    refine (ofI_no ds s A R n c ss.length k _ ((HRa.out.below HB_2.out).call HB_2.out.size) HV.out HX.out (.inr HXN.out)).mono ?_
    rintro e w3 ⟨rfl, hb⟩
    have hs3 : w2.heap.size ≤ w3.heap.size := hb.size
    have pa_3 := keep1 hb pa_2
    have ta_3 := keep1 hb ta_2
    have tc_3 := keep1 hb tc_2
    have HB_3 : Hid (Below w.heap.size w w3) := Lib.hid (HB_2.out.trans (hb.mono HB_2.out.size))
    clear hb  pa_2 ta_2 tc_2 HB_2
    go_wp2
    go_ret2
    exact ⟨by rw [HM.out, HO.out]; first | done | rfl, HB_3.out⟩
  have hve := tabN_enum hvt
  (try obtain rfl : va = true := by rw [← hva]; exact hve)
  rcases fidx_cases (isNm s) ds with ⟨h1, _⟩ | ⟨j, hj, h1, _, _⟩
  · omega
  obtain rfl : x = (j : Int) := by omega
  obtain ⟨r, hr12, hr, hrk⟩ := rk_in hve hj
  have hrs : r < ss.length := by rw [tabN_len hvt]; exact hr
  have HO : Hid (lkOk ds ss s = true) := Lib.hid (by unfold lkOk; rw [hvt, hx, decide_eq_true (by omega)]; rfl)
  have HM : Hid (mLook ds ss s = ss[r]) := Lib.hid (by unfold mLook; rw [HO.out, if_pos rfl, valI_at hj hx, hrk, rowR_at hrs])
  have HRK := Lib.hid hrk
  clear hvt hx hva h1 hrk hve
  go_enter Try.func22, Try.ntmps22
  go_wp2_with fail
  rw [HW0.out]
  refine (numTab_v ds ss A R n c _ k _ ((HRa.out.below HB_0.out).call HB_0.out.size) ((HSI.out.below HB_0.out).call HB_0.out.size) HVT.out).mono ?_
  rintro e1 w1 ⟨he1, hb⟩
  have hs1 : w0.heap.size ≤ w1.heap.size := hb.size
  replace he1 : e1 = .returned (.tuple #[.agg #[.slice A n c, .slice R ss.length k], .bool true]) := he1
  subst he1
  have pa_1 := keep1 hb pa_0
  have HB_1 : Hid (Below w.heap.size w w1) := Lib.hid (HB_0.out.trans (hb.mono HB_0.out.size))
  clear hb pa_0 HB_0
  go_wp2_with fail
  obtain ⟨w2, hw⟩ : ∃ W : World, W = (w1.alloc (.cells #[.slice A n c, .slice R ss.length k] 101)) := ⟨_, rfl⟩
  have hb : Below w1.heap.size w1 w2 := by rw [hw]; exact (Below.refl _ _).alloc (Nat.le_refl _) _
  have hs2 : w1.heap.size + 1 ≤ w2.heap.size := by rw [hw]; simp
  have pa_2 := keep1 hb pa_1
  have HB_2 : Hid (Below w.heap.size w w2) := Lib.hid (HB_1.out.trans (hb.mono HB_1.out.size))
  have ta_2 : w2.cell? ⟨w1.heap.size, 0, none⟩ = some (.slice A n c) := by rw [hw]; simp [go_sem]
  have tc_2 : w2.cell? ⟨w1.heap.size, 1, none⟩ = some (.slice R ss.length k) := by rw [hw]; simp [go_sem]
  have lf_pa : (w1.alloc (.cells #[.slice A n c, .slice R ss.length k] 101)).cell? ⟨w.heap.size, 0, none⟩ = some (.slice A n c) := by rw [← hw]; exact pa_2
  have lf_ta : (w1.alloc (.cells #[.slice A n c, .slice R ss.length k] 101)).cell? ⟨w1.heap.size, 0, none⟩ = some (.slice A n c) := by rw [← hw]; exact ta_2
  have lf_tc : (w1.alloc (.cells #[.slice A n c, .slice R ss.length k] 101)).cell? ⟨w1.heap.size, 1, none⟩ = some (.slice R ss.length k) := by rw [← hw]; exact tc_2
  have HW2 : Hid ((w1.alloc (.cells #[.slice A n c, .slice R ss.length k] 101)) = w2) := Lib.hid hw.symm
  clear hb hw pa_1 HB_1
  go_wp2_with fail
  rw [HW2.out]
  clear lf_pa lf_ta lf_tc
  refine (ofI_yes ds s A R n c ss.length k ss _ ((HRa.out.below HB_2.out).call HB_2.out.size) ((HSI.out.below HB_2.out).call HB_2.out.size) HV.out j hj HX.out r hrs HRK.out).mono ?_
  rintro e w3 ⟨rfl, hb⟩
  have hs3 : w2.heap.size ≤ w3.heap.size := hb.size
  have pa_3 := keep1 hb pa_2
  have ta_3 := keep1 hb ta_2
  have tc_3 := keep1 hb tc_2
  have HB_3 : Hid (Below w.heap.size w w3) := Lib.hid (HB_2.out.trans (hb.mono HB_2.out.size))
  clear hb  pa_2 ta_2 tc_2 HB_2
  go_wp2
  go_ret2
  exact ⟨by rw [HM.out, HO.out]; first | done | rfl, HB_3.out⟩

end Go.Proofs.Ytpmanbmhbfnefaa
