import Derived.Test.YtcbhfaijlmckbaaConvL
import Derived.Test.YtcbhfaijlmckbaaConvJ
namespace Go.Proofs.Ytcbhfaijlmckbaa
open Go.RowKit Go.Maps
set_option linter.unusedVariables false
set_option maxRecDepth 100000


theorem sd_none (w : World) (B : Nat) : SD w B none 0 0 [] := ⟨.inl rfl, rfl, Nat.le_refl _, by unfold maxLen; omega, fun d h => by cases h⟩


set_option maxHeartbeats 1000000 in
theorem reval1_v (ss : List Int) (r : Nat) (R : Option Addr) (k T : Nat) (w : World) (hs : SI w w.heap.size R ss.length k ss) (hc : w.cell? ⟨T, 1, none⟩ = some (.slice R ss.length k)) (hr : r < ss.length) :
    Calls Try.prog 91 #[.int .i64 r, .pointer (some ⟨T, 0, none⟩)] w fun e w' => e = .returned (.int .i64 (rowR ss r)) ∧ w' = w := by
  obtain ⟨b, o, hA, hbb, d1⟩ := hs.at_ hr
  have hmx := hs.max
  have hcp := hs.cap
  unfold maxLen at hmx
  subst hA
  have HR := Lib.hid (rowR_at hr)
  have hi1 : (r : Int) < (ss.length : Int) := by omega
  have hi0 : (0 : Int) ≤ (r : Int) := by omega
  clear hs
  go_enter Try.func91, Try.ntmps91
  go_wp2
  go_ret
  exact ⟨ret_int HR.out.symm, rfl⟩

set_option maxHeartbeats 4000000 in
theorem implLook_v (ds : List D) (ss : List Int) (s : ByteArray) (A R : Option Addr) (n c q k : Nat) (w : World) (ha : SD w w.heap.size A n c ds) (hs : SI w w.heap.size R q k ss) (hn : n ≤ 1048576) {r0 : Int} {r1 : Bool} (h0 : mLook ds ss s = r0) (h1 : lkOk ds ss s = r1) :
    Calls Try.prog 40 #[.agg #[.slice A n c], .slice R q k, .string s] w (fun en w' => en = .returned (.tuple #[.int .i64 r0, .bool r1]) ∧ Below w.heap.size w w') := by
  subst h0 h1
  have HRa := Lib.hid ha
  have HOA := Lib.hid ha.ok
  have HLA := Lib.hid ha.len
  clear ha
  have hmx := hs.max
  have hcp := hs.cap
  unfold maxLen at hmx
  have hlq := hs.len
  subst hlq
  have HSI := Lib.hid hs
  clear hs
  obtain ⟨vt, hvt⟩ : ∃ v, tabN ds ss = v := ⟨_, rfl⟩
  have HVT := Lib.hid hvt
  obtain ⟨x, hx⟩ : ∃ v, fidx (isNm s) ds = v := ⟨_, rfl⟩
  have HX := Lib.hid hx
  obtain ⟨va, hva⟩ : ∃ v, vEnum ds = v := ⟨_, rfl⟩
  have HV := Lib.hid hva
  obtain ⟨w0, hw⟩ : ∃ W : World, W = (w.alloc (.cells #[.slice A n c] 25)) := ⟨_, rfl⟩
  have hb : Below w.heap.size w w0 := by rw [hw]; exact ((Below.refl _ _).alloc (by first | exact Nat.le_refl _ | (simp; done) | (simp; omega)) _)
  have hs0 : w.heap.size + 1 ≤ w0.heap.size := by rw [hw]; simp
  have pa_0 : w0.cell? ⟨w.heap.size, 0, none⟩ = some (.slice A n c) := by rw [hw]; simp [go_sem]
  have HB_0 := Lib.hid hb
  have HW0 : Hid ((w.alloc (.cells #[.slice A n c] 25)) = w0) := Lib.hid hw.symm
  clear hb hw
  cases vt
  · skip
    have HO : Hid (lkOk ds ss s = false) := Lib.hid (by unfold lkOk; rw [hvt]; rfl)
    have HM : Hid (mLook ds ss s = 0) := Lib.hid (by unfold mLook; rw [HO.out]; rfl)
    clear hvt hx hva
    go_enter Try.func40, Try.ntmps40
    go_wp2_with fail
    rw [HW0.out]
    refine (numTab_v ds ss A R n c _ k _ ((HRa.out.below HB_0.out).call HB_0.out.size) ((HSI.out.below HB_0.out).call HB_0.out.size) HVT.out).mono ?_
    rintro e1 w1 ⟨he1, hb⟩
    have hs1 : w0.heap.size ≤ w1.heap.size := hb.size
    replace he1 : e1 = .returned (.tuple #[.agg #[.slice none 0 0, .slice none 0 0], .bool false]) := he1
    subst he1
    have pa_1 := keep1 hb pa_0
    have HB_1 : Hid (Below w.heap.size w w1) := Lib.hid (HB_0.out.trans (hb.mono HB_0.out.size))
    clear hb pa_0 HB_0
    go_wp2_with fail
    obtain ⟨w2, hw⟩ : ∃ W : World, W = (w1.alloc (.cells #[.slice none 0 0, .slice none 0 0] 108)) := ⟨_, rfl⟩
    have hb : Below w1.heap.size w1 w2 := by rw [hw]; exact (Below.refl _ _).alloc (Nat.le_refl _) _
    have hs2 : w1.heap.size + 1 ≤ w2.heap.size := by rw [hw]; simp
    have pa_2 := keep1 hb pa_1
    have HB_2 : Hid (Below w.heap.size w w2) := Lib.hid (HB_1.out.trans (hb.mono HB_1.out.size))
    have ta_2 : w2.cell? ⟨w1.heap.size, 0, none⟩ = some (.slice none 0 0) := by rw [hw]; simp [go_sem]
    have tc_2 : w2.cell? ⟨w1.heap.size, 1, none⟩ = some (.slice none 0 0) := by rw [hw]; simp [go_sem]
    have lf_pa : (w1.alloc (.cells #[.slice none 0 0, .slice none 0 0] 108)).cell? ⟨w.heap.size, 0, none⟩ = some (.slice A n c) := by rw [← hw]; exact pa_2
    have lf_ta : (w1.alloc (.cells #[.slice none 0 0, .slice none 0 0] 108)).cell? ⟨w1.heap.size, 0, none⟩ = some (.slice none 0 0) := by rw [← hw]; exact ta_2
    have lf_tc : (w1.alloc (.cells #[.slice none 0 0, .slice none 0 0] 108)).cell? ⟨w1.heap.size, 1, none⟩ = some (.slice none 0 0) := by rw [← hw]; exact tc_2
    have HW2 : Hid ((w1.alloc (.cells #[.slice none 0 0, .slice none 0 0] 108)) = w2) := Lib.hid hw.symm
    clear hb hw pa_1 HB_1
    go_wp2_with fail
    rw [HW2.out]
    clear lf_pa lf_ta lf_tc
    refine (ofI_no [] s none none 0 0 0 0 _ (sd_none _ _) (v := true) (x := -1) rfl rfl (.inr (by decide))).mono ?_
    rintro e w3 ⟨rfl, hb⟩
    have hs3 : w2.heap.size ≤ w3.heap.size := hb.size
    have pa_3 := keep1 hb pa_2
    have ta_3 := keep1 hb ta_2
    have tc_3 := keep1 hb tc_2
    have HB_3 : Hid (Below w.heap.size w w3) := Lib.hid (HB_2.out.trans (hb.mono HB_2.out.size))
    clear hb  pa_2 ta_2 tc_2 HB_2
    go_wp2
    go_ret2
    exact ⟨by rw [HM.out, HO.out]; first | done | rfl, HB_3.out⟩
  by_cases hxn : x < 0
  · skip
    have HO : Hid (lkOk ds ss s = false) := Lib.hid (by unfold lkOk; rw [hx, decide_eq_false (p := 0 ≤ x) (by omega), Bool.and_false])
    have HM : Hid (mLook ds ss s = 0) := Lib.hid (by unfold mLook; rw [HO.out]; rfl)
    have HXN := Lib.hid hxn
    clear hvt hx hva hxn
    go_enter Try.func40, Try.ntmps40
    go_wp2_with fail
    rw [HW0.out]
    refine (numTab_v ds ss A R n c _ k _ ((HRa.out.below HB_0.out).call HB_0.out.size) ((HSI.out.below HB_0.out).call HB_0.out.size) HVT.out).mono ?_
    rintro e1 w1 ⟨he1, hb⟩
    have hs1 : w0.heap.size ≤ w1.heap.size := hb.size
    replace he1 : e1 = .returned (.tuple #[.agg #[.slice A n c, .slice R ss.length k], .bool true]) := he1
    subst he1
    have pa_1 := keep1 hb pa_0
    have HB_1 : Hid (Below w.heap.size w w1) := Lib.hid (HB_0.out.trans (hb.mono HB_0.out.size))
    clear hb pa_0 HB_0
    go_wp2_with fail
    obtain ⟨w2, hw⟩ : ∃ W : World, W = (w1.alloc (.cells #[.slice A n c, .slice R ss.length k] 108)) := ⟨_, rfl⟩
    have hb : Below w1.heap.size w1 w2 := by rw [hw]; exact (Below.refl _ _).alloc (Nat.le_refl _) _
    have hs2 : w1.heap.size + 1 ≤ w2.heap.size := by rw [hw]; simp
    have pa_2 := keep1 hb pa_1
    have HB_2 : Hid (Below w.heap.size w w2) := Lib.hid (HB_1.out.trans (hb.mono HB_1.out.size))
    have ta_2 : w2.cell? ⟨w1.heap.size, 0, none⟩ = some (.slice A n c) := by rw [hw]; simp [go_sem]
    have tc_2 : w2.cell? ⟨w1.heap.size, 1, none⟩ = some (.slice R ss.length k) := by rw [hw]; simp [go_sem]
    have lf_pa : (w1.alloc (.cells #[.slice A n c, .slice R ss.length k] 108)).cell? ⟨w.heap.size, 0, none⟩ = some (.slice A n c) := by rw [← hw]; exact pa_2
    have lf_ta : (w1.alloc (.cells #[.slice A n c, .slice R ss.length k] 108)).cell? ⟨w1.heap.size, 0, none⟩ = some (.slice A n c) := by rw [← hw]; exact ta_2
    have lf_tc : (w1.alloc (.cells #[.slice A n c, .slice R ss.length k] 108)).cell? ⟨w1.heap.size, 1, none⟩ = some (.slice R ss.length k) := by rw [← hw]; exact tc_2
    have HW2 : Hid ((w1.alloc (.cells #[.slice A n c, .slice R ss.length k] 108)) = w2) := Lib.hid hw.symm
    clear hb hw pa_1 HB_1
    go_wp2_with fail
    rw [HW2.out]
    clear lf_pa lf_ta lf_tc
    refine (ofI_no ds s A R n c ss.length k _ ((HRa.out.below HB_2.out).call HB_2.out.size) HV.out HX.out (.inr HXN.out)).mono ?_
    rintro e w3 ⟨rfl, hb⟩
    have hs3 : w2.heap.size ≤ w3.heap.size := hb.size
    have pa_3 := keep1 hb pa_2
    have ta_3 := keep1 hb ta_2
    have tc_3 := keep1 hb tc_2
    have HB_3 : Hid (Below w.heap.size w w3) := Lib.hid (HB_2.out.trans (hb.mono HB_2.out.size))
    clear hb  pa_2 ta_2 tc_2 HB_2
    go_wp2
    go_ret2
    exact ⟨by rw [HM.out, HO.out]; first | done | rfl, HB_3.out⟩
  have hve := tabN_enum hvt
  (try obtain rfl : va = true := by rw [← hva]; exact hve)
  rcases fidx_cases (isNm s) ds with ⟨h1, _⟩ | ⟨j, hj, h1, _, _⟩
  · omega
  obtain rfl : x = (j : Int) := by omega
  obtain ⟨r, hr12, hr, hrk⟩ := rk_in hve hj
  have hrs : r < ss.length := by rw [tabN_len hvt]; exact hr
  have HO : Hid (lkOk ds ss s = true) := Lib.hid (by unfold lkOk; rw [hvt, hx, decide_eq_true (by omega)]; rfl)
  have HM : Hid (mLook ds ss s = ss[r]) := Lib.hid (by unfold mLook; rw [HO.out, if_pos rfl, valI_at hj hx, hrk, rowR_at hrs])
  have HRK := Lib.hid hrk
  clear hvt hx hva h1 hrk hve
  go_enter Try.func40, Try.ntmps40
  go_wp2_with fail
  rw [HW0.out]
  refine (numTab_v ds ss A R n c _ k _ ((HRa.out.below HB_0.out).call HB_0.out.size) ((HSI.out.below HB_0.out).call HB_0.out.size) HVT.out).mono ?_
  rintro e1 w1 ⟨he1, hb⟩
  have hs1 : w0.heap.size ≤ w1.heap.size := hb.size
  replace he1 : e1 = .returned (.tuple #[.agg #[.slice A n c, .slice R ss.length k], .bool true]) := he1
  subst he1
  have pa_1 := keep1 hb pa_0
  have HB_1 : Hid (Below w.heap.size w w1) := Lib.hid (HB_0.out.trans (hb.mono HB_0.out.size))
  clear hb pa_0 HB_0
  go_wp2_with fail
  obtain ⟨w2, hw⟩ : ∃ W : World, W = (w1.alloc (.cells #[.slice A n c, .slice R ss.length k] 108)) := ⟨_, rfl⟩
  have hb : Below w1.heap.size w1 w2 := by rw [hw]; exact (Below.refl _ _).alloc (Nat.le_refl _) _
  have hs2 : w1.heap.size + 1 ≤ w2.heap.size := by rw [hw]; simp
  have pa_2 := keep1 hb pa_1
  have HB_2 : Hid (Below w.heap.size w w2) := Lib.hid (HB_1.out.trans (hb.mono HB_1.out.size))
  have ta_2 : w2.cell? ⟨w1.heap.size, 0, none⟩ = some (.slice A n c) := by rw [hw]; simp [go_sem]
  have tc_2 : w2.cell? ⟨w1.heap.size, 1, none⟩ = some (.slice R ss.length k) := by rw [hw]; simp [go_sem]
  have lf_pa : (w1.alloc (.cells #[.slice A n c, .slice R ss.length k] 108)).cell? ⟨w.heap.size, 0, none⟩ = some (.slice A n c) := by rw [← hw]; exact pa_2
  have lf_ta : (w1.alloc (.cells #[.slice A n c, .slice R ss.length k] 108)).cell? ⟨w1.heap.size, 0, none⟩ = some (.slice A n c) := by rw [← hw]; exact ta_2
  have lf_tc : (w1.alloc (.cells #[.slice A n c, .slice R ss.length k] 108)).cell? ⟨w1.heap.size, 1, none⟩ = some (.slice R ss.length k) := by rw [← hw]; exact tc_2
  have HW2 : Hid ((w1.alloc (.cells #[.slice A n c, .slice R ss.length k] 108)) = w2) := Lib.hid hw.symm
  clear hb hw pa_1 HB_1
  go_wp2_with fail
  rw [HW2.out]
  clear lf_pa lf_ta lf_tc
  refine (ofI_yes ds s A R n c ss.length k ss _ ((HRa.out.below HB_2.out).call HB_2.out.size) ((HSI.out.below HB_2.out).call HB_2.out.size) HV.out j hj HX.out r hrs HRK.out).mono ?_
  rintro e w3 ⟨rfl, hb⟩
  have hs3 : w2.heap.size ≤ w3.heap.size := hb.size
  have pa_3 := keep1 hb pa_2
  have ta_3 := keep1 hb ta_2
  have tc_3 := keep1 hb tc_2
  have HB_3 : Hid (Below w.heap.size w w3) := Lib.hid (HB_2.out.trans (hb.mono HB_2.out.size))
  clear hb  pa_2 ta_2 tc_2 HB_2
  go_wp2
  go_ret2
  exact ⟨by rw [HM.out, HO.out]; first | done | rfl, HB_3.out⟩

set_option maxHeartbeats 8000000 in
theorem byRanks_V (ds : List D) (A : Option Addr) (n c : Nat) (ss : List Int) (R : Option Addr) (kc T : Nat) (w : World) (ha : SD w w.heap.size A n c ds) (hs : SI w w.heap.size R ss.length kc ss) (htc : w.cell? ⟨T, 1, none⟩ = some (.slice R ss.length kc)) (hq : ss.length = (mems ds).length) :
    Calls Try.prog 61 #[.agg #[.slice A n c], .func (.func 91) #[] #[.pointer (some ⟨T, 0, none⟩)]] w (DefsP (byR (rowR ss) ds) w) := by
  have HRa := Lib.hid ha
  have HOA := Lib.hid ha.ok
  have HLA := Lib.hid ha.len
  clear ha
  have HTC := Lib.hid htc
  have HSI := Lib.hid hs
  have HQL := Lib.hid hq
  clear htc hs hq
  obtain ⟨va, hva⟩ : ∃ v, vEnum ds = v := ⟨_, rfl⟩
  have HV := Lib.hid hva
  obtain ⟨w0, hw⟩ : ∃ W : World, W = (w.alloc (.cells #[.slice A n c] 25)) := ⟨_, rfl⟩
  have hb : Below w.heap.size w w0 := by rw [hw]; exact ((Below.refl _ _).alloc (by first | exact Nat.le_refl _ | (simp; done) | (simp; omega)) _)
  have hs0 : w.heap.size + 1 ≤ w0.heap.size := by rw [hw]; simp
  have pa_0 : w0.cell? ⟨w.heap.size, 0, none⟩ = some (.slice A n c) := by rw [hw]; simp [go_sem]
  have HB_0 := Lib.hid hb
  have HW0 : Hid ((w.alloc (.cells #[.slice A n c] 25)) = w0) := Lib.hid hw.symm
  clear hb hw
  cases va
  · clear hva
    have HM : Hid (byR (rowR ss) ds = []) := Lib.hid (by unfold byR; rw [HV.out]; rfl)
    go_enter Try.func61, Try.ntmps61
    go_wp2_with fail
    rw [HW0.out]
    refine (implVE_v ds _ _ _ _ ((HRa.out.below HB_0.out).call HB_0.out.size) HV.out).mono ?_
    rintro e w1 ⟨rfl, hb⟩
    have hs1 : w0.heap.size ≤ w1.heap.size := hb.size
    have pa_1 := keep1 hb pa_0
    have HB_1 : Hid (Below w.heap.size w w1) := Lib.hid (HB_0.out.trans (hb.mono HB_0.out.size))
    clear hb  pa_0 HB_0
    go_wp2
    go_ret
    exact ⟨none, 0, by rw [HM.out]; rfl, by rw [HM.out]; exact World.ownsRow_nil _ _ _ _, HB_1.out⟩
  have HM : Hid (byR (rowR ss) ds = rkL (rowR ss) ds) := Lib.hid (by unfold byR; rw [HV.out, if_pos rfl])
  have hn12 : ds.length ≤ 12 := vEnum_len hva
  have hl := HLA.out
  subst hl
  clear hva
  go_enter Try.func61, Try.ntmps61
  go_wp2_with fail
  rw [HW0.out]
  refine (implVE_v ds _ _ _ _ ((HRa.out.below HB_0.out).call HB_0.out.size) HV.out).mono ?_
  rintro e w1 ⟨rfl, hb⟩
  have hs1 : w0.heap.size ≤ w1.heap.size := hb.size
  have pa_1 := keep1 hb pa_0
  have HB_1 : Hid (Below w.heap.size w w1) := Lib.hid (HB_0.out.trans (hb.mono HB_0.out.size))
  clear hb  pa_0 HB_0
  have HSA := Lib.hid ((HRa.out.below HB_1.out).call HB_1.out.size)
  have hcap := HSA.out.cap
  have hmx := HSA.out.max
  unfold maxLen at hmx
  obtain ⟨G, hG⟩ : ∃ G, w1.heap.size = G := ⟨_, rfl⟩
  have hsG : w.heap.size ≤ G := by rw [← hG]; exact HB_1.out.size
  have HG := Lib.hid hG
  clear hG
  go_wp2
  go_loopw [5, 14] (fun v i wr => ∃ k : Nat, k ≤ ds.length ∧ i = .int .i64 k ∧ Hid (wr.ownsRow G 60 2 v k (flat ((rkL (rowR ss) ds).take k))) ∧ Hid (Below G w1 wr)) (fun _ i _ => ds.length - (intOf i).toNat)
  case atStart => exact ⟨0, Nat.zero_le _, rfl, Lib.hid (World.ownsRow_nil _ _ _ _), Lib.hid (by rw [← HG.out]; exact Below.refl _ _)⟩
  case round =>
    obtain ⟨k, hk, rfl, hown, hbel⟩ := hrel
    have hbG : Hid (Below w1.heap.size w1 wr) := Lib.hid (by rw [HG.out]; exact hbel.out)
    by_cases hlt : k < ds.length
    · obtain ⟨b, o, hA, hbb, d1, d2⟩ := (HSA.out.below hbG.out).at_ hlt
      subst hA
      obtain ⟨r, hr12, hrl, hrk⟩ := rk_in HV.out hlt
      have HRK := Lib.hid hrk
      have HFT := Lib.hid (flat_rk (rowR ss) hlt)
      rw [hrk] at HFT
      clear hrk
      have HNF := Lib.hid (nm_first HV.out k hlt)
      have hgs : G ≤ wr.heap.size := by have := hbel.out.size; have := HG.out; omega
      have hi1 : (k : Int) < (ds.length : Int) := by omega
      have hi0 : (0 : Int) ≤ (k : Int) := by omega
      obtain ⟨w5, hw5⟩ : ∃ W : World, W = (wr.alloc (.cells #[.string ds[k].name, .int .i64 ds[k].val] 60)) := ⟨_, rfl⟩
      have hb5 : Below wr.heap.size wr w5 := by rw [hw5]; exact (Below.refl _ _).alloc (Nat.le_refl _) _
      have pa_w := keep1 hbG.out pa_1
      have pa_5 := keep1 hb5 pa_w
      have e0 : w5.cell? ⟨wr.heap.size, 0, none⟩ = some (.string ds[k].name) := by rw [hw5]; simp [go_sem]
      have e1 : w5.cell? ⟨wr.heap.size, 1, none⟩ = some (.int .i64 ds[k].val) := by rw [hw5]; simp [go_sem]
      have HS5 := Lib.hid (((HSA.out.below hbG.out).call hbG.out.size).below hb5 |>.call hb5.size)
      have HO5 := Lib.hid (hown.out.alloc (.cells #[.string ds[k].name, .int .i64 ds[k].val] 60))
      rw [← hw5] at HO5
      have HB5 : Hid (Below G w1 w5) := Lib.hid (hbel.out.trans (hb5.mono hgs))
      have hs5 : G ≤ w5.heap.size := by have := hb5.size; omega
      have HW5 := Lib.hid hw5.symm
      clear hw5
      have hrs : r < ss.length := by rw [HQL.out]; exact hrl
      have HBW5 : Hid (Below w.heap.size w w5) := Lib.hid ((HB_1.out.trans (hbG.out.mono HB_1.out.size)).trans (hb5.mono (HB_1.out.trans (hbG.out.mono HB_1.out.size)).size))
      go_wp2_with fail
      rw [HW5.out]
      clear hb5 d1 d2
      go_region_held3 (fun w' => w'.cell? ⟨w.heap.size, 0, none⟩ = some (.slice (some ⟨b, o, none⟩) ds.length c) ∧ w'.cell? ⟨wr.heap.size, 0, none⟩ = some (.string ds[k].name))
        (first | with_reducible exact ⟨pa_5, e0⟩ | with_reducible exact ⟨y0, y1⟩ | with_reducible exact ⟨keepA y0, keepA y1⟩ | with_reducible exact ⟨u0, u1⟩ | go_keep | exact ⟨keepA y0, keepA y1⟩)
        (first
          | (go_at_call 42; refine (HRK.out ▸ implRankOf_yes ds ds[k].name _ _ _ _ (by first | exact HS5.out | exact HS5.out.drew | exact HS5.out.drewN _) HV.out k hlt HNF.out).mono ?_; rintro e6 w6 ⟨rfl, hb6⟩; replace hb6 : Below w5.heap.size w5 w6 := (by first | exact hb6 | exact undrew hb6); have y0 := keep1 hb6 pa_5; have y1 := keep1 hb6 e0; have ho6 := own_below HO5.out hb6)
          | (go_at_call 91; have hcc := reval1_v ss r R kc T w6 ((HSI.out.below (HBW5.out.trans (hb6.mono HBW5.out.size))).call (HBW5.out.trans (hb6.mono HBW5.out.size)).size) (keep1 (HBW5.out.trans (hb6.mono HBW5.out.size)) HTC.out) hrs; refine hcc.mono ?_; rintro e7 w7 ⟨rfl, rfl⟩)
          | (refine step_app_D rfl _ _ rfl G _ _ _ rfl (ho6.alloc _) _ _ _ _ rfl (heap_alloc_new _ _) (by omega) (by have := hb6.size; simp; omega) ?_; intro v' w8 ho8 hg8; have hb8 : Below G w1 w8 := (((HB5.out.trans (hb6.mono hs5)).alloc (by have := hb6.size; omega) _).grown hg8 (by have := hb6.size; simp; omega) (fun q hq => (ho6.lt q hq).1)); have u0 := (hb8.cell (p := ⟨w.heap.size, 0, none⟩) (by show w.heap.size < G; have h1 : w.heap.size < w1.heap.size := World.block_lt_of_cell? _ _ pa_1; have := HG.out; omega)).trans pa_1; have u1 := hg8.cell (keepA y1) (fun e => by have := (hown.out.lt _ e.symm).2; simp only at this; omega)))
      all_goals
        go_wp2
        go_roundw
        case rel => exact ⟨k + 1, by omega, by go_num, Lib.hid (by rw [HFT.out]; exact ho8), Lib.hid hb8⟩
        case measure => simp [intOf]; omega
    · obtain rfl : k = ds.length := by omega
      obtain ⟨A9, c9, hv9⟩ := own_form hown.out
      subst hv9
      have HO9 : Hid (wr.ownsRow G 60 2 (.slice A9 ds.length c9) (rkL (rowR ss) ds).length (flat (rkL (rowR ss) ds))) := Lib.hid (by have h := hown.out; rw [List.take_of_length_le (by rw [rkL_len]; exact Nat.le_refl _)] at h; rw [rkL_len]; exact h)
      go_wp2
      go_ret
      refine ⟨A9, c9, by rw [HM.out, rkL_len]; rfl, ?_, HB_1.out.trans (hbG.out.mono HB_1.out.size)⟩
      rw [HM.out]
      have h := own_base HO9.out hsG
      rw [rkL_len] at h ⊢
      exact h

set_option maxHeartbeats 8000000 in
theorem implReval_any (ds : List D) (ss : List Int) (A R : Option Addr) (n c q k : Nat) (w : World) (ha : SD w w.heap.size A n c ds) (hs : SI w w.heap.size R q k ss) :
    Calls Try.prog 44 #[.agg #[.slice A n c], .slice R q k] w (EnumR (mReval ds ss) (tabN ds ss) w) := by
  have HRa := Lib.hid ha
  have HOA := Lib.hid ha.ok
  have HLA := Lib.hid ha.len
  clear ha
  have hlq := hs.len
  subst hlq
  have HSI := Lib.hid hs
  clear hs
  obtain ⟨vt, hvt⟩ : ∃ v, tabN ds ss = v := ⟨_, rfl⟩
  have HVT := Lib.hid hvt
  obtain ⟨w0, hw⟩ : ∃ W : World, W = ((w.alloc (.cells #[.slice A n c] 25)).alloc (.cells #[.slice none 0 0] 25)) := ⟨_, rfl⟩
  have hb : Below w.heap.size w w0 := by rw [hw]; exact (((Below.refl _ _).alloc (by first | exact Nat.le_refl _ | (simp; done) | (simp; omega)) _).alloc (by first | exact Nat.le_refl _ | (simp; done) | (simp; omega)) _)
  have hs0 : w.heap.size + 2 ≤ w0.heap.size := by rw [hw]; simp
  have pa_0 : w0.cell? ⟨w.heap.size, 0, none⟩ = some (.slice A n c) := by rw [hw]; simp [go_sem]
  have za_0 : w0.cell? ⟨w.heap.size + 1, 0, none⟩ = some (.slice none 0 0) := by rw [hw]; simp [go_sem]
  have HB_0 := Lib.hid hb
  have HW0 : Hid (((w.alloc (.cells #[.slice A n c] 25)).alloc (.cells #[.slice none 0 0] 25)) = w0) := Lib.hid hw.symm
  clear hb hw
  have HF0 : Hid (w0.frozen? ⟨w.heap.size + 1, 0, none⟩ = false) := Lib.hid (by rw [← HW0.out]; simp [go_sem])
  cases vt
  · skip
    have HO : Hid (tabN ds ss = false) := Lib.hid hvt
    have HM : Hid (mReval ds ss = []) := Lib.hid (by unfold mReval; rw [hvt]; rfl)
    clear hvt
    go_enter Try.func44, Try.ntmps44
    go_wp2_with fail
    rw [HW0.out]
    refine (numTab_v ds ss A R n c _ k _ ((HRa.out.below HB_0.out).call HB_0.out.size) ((HSI.out.below HB_0.out).call HB_0.out.size) HVT.out).mono ?_
    rintro e1 w1 ⟨he1, hb⟩
    have hs1 : w0.heap.size ≤ w1.heap.size := hb.size
    replace he1 : e1 = .returned (.tuple #[.agg #[.slice none 0 0, .slice none 0 0], .bool false]) := he1
    subst he1
    have pa_1 := keep1 hb pa_0
    have za_1 := keep1 hb za_0
    have HB_1 : Hid (Below w.heap.size w w1) := Lib.hid (HB_0.out.trans (hb.mono HB_0.out.size))
    have ZF := Lib.hid ((hb.frozen (p := ⟨w.heap.size + 1, 0, none⟩) hs0).trans HF0.out)
    clear hb pa_0 za_0 HB_0
    have zf := ZF.out
    have hbz : Below w1.heap.size w1 (w1.alloc (.cells #[.slice none 0 0, .slice none 0 0] 108)) := (Below.refl _ _).alloc (Nat.le_refl _) _
    have la := keep1 hbz za_1
    have lf := (hbz.frozen (p := ⟨w.heap.size + 1, 0, none⟩) (by show w.heap.size + 1 < w1.heap.size; omega)).trans zf
    clear hbz
    go_wp2
    refine bodyPost_ret (v := .tuple #[.agg #[.slice none 0 0], .bool false]) (by simp [results, Try.results44, go_sem, la]) rfl ?_
    exact ⟨none, 0, by rw [HM.out, HO.out]; rfl, by rw [HM.out]; exact World.ownsRow_nil _ _ _ _, (HB_1.out.alloc HB_1.out.size _).setCell (by simp) _⟩
  have HO : Hid (tabN ds ss = true) := Lib.hid hvt
  have HV := Lib.hid (tabN_enum hvt)
  have HM : Hid (mReval ds ss = byR (rowR ss) ds) := Lib.hid (by unfold mReval byR; rw [hvt, tabN_enum hvt])
  have HQL := Lib.hid (tabN_len hvt)
  clear hvt
  go_enter Try.func44, Try.ntmps44
  go_wp2_with fail
  rw [HW0.out]
  refine (numTab_v ds ss A R n c _ k _ ((HRa.out.below HB_0.out).call HB_0.out.size) ((HSI.out.below HB_0.out).call HB_0.out.size) HVT.out).mono ?_
  rintro e1 w1 ⟨he1, hb⟩
  have hs1 : w0.heap.size ≤ w1.heap.size := hb.size
  replace he1 : e1 = .returned (.tuple #[.agg #[.slice A n c, .slice R ss.length k], .bool true]) := he1
  subst he1
  have pa_1 := keep1 hb pa_0
  have za_1 := keep1 hb za_0
  have HB_1 : Hid (Below w.heap.size w w1) := Lib.hid (HB_0.out.trans (hb.mono HB_0.out.size))
  have ZF := Lib.hid ((hb.frozen (p := ⟨w.heap.size + 1, 0, none⟩) hs0).trans HF0.out)
  clear hb pa_0 za_0 HB_0
  obtain ⟨w2, hw⟩ : ∃ W : World, W = (w1.alloc (.cells #[.slice A n c, .slice R ss.length k] 108)) := ⟨_, rfl⟩
  have hb : Below w1.heap.size w1 w2 := by rw [hw]; exact (Below.refl _ _).alloc (Nat.le_refl _) _
  have hs2 : w1.heap.size + 1 ≤ w2.heap.size := by rw [hw]; simp
  have pa_2 := keep1 hb pa_1
  have za_2 := keep1 hb za_1
  have HB_2 : Hid (Below w.heap.size w w2) := Lib.hid (HB_1.out.trans (hb.mono HB_1.out.size))
  have ta_2 : w2.cell? ⟨w1.heap.size, 0, none⟩ = some (.slice A n c) := by rw [hw]; simp [go_sem]
  have tc_2 : w2.cell? ⟨w1.heap.size, 1, none⟩ = some (.slice R ss.length k) := by rw [hw]; simp [go_sem]
  have lf_pa : (w1.alloc (.cells #[.slice A n c, .slice R ss.length k] 108)).cell? ⟨w.heap.size, 0, none⟩ = some (.slice A n c) := by rw [← hw]; exact pa_2
  have lf_za : (w1.alloc (.cells #[.slice A n c, .slice R ss.length k] 108)).cell? ⟨w.heap.size + 1, 0, none⟩ = some (.slice none 0 0) := by rw [← hw]; exact za_2
  have lf_ta : (w1.alloc (.cells #[.slice A n c, .slice R ss.length k] 108)).cell? ⟨w1.heap.size, 0, none⟩ = some (.slice A n c) := by rw [← hw]; exact ta_2
  have lf_tc : (w1.alloc (.cells #[.slice A n c, .slice R ss.length k] 108)).cell? ⟨w1.heap.size, 1, none⟩ = some (.slice R ss.length k) := by rw [← hw]; exact tc_2
  have HW2 : Hid ((w1.alloc (.cells #[.slice A n c, .slice R ss.length k] 108)) = w2) := Lib.hid hw.symm
  clear hb hw pa_1 za_1 HB_1
  have hbz : Below w1.heap.size w1 w2 := by rw [← HW2.out]; exact (Below.refl _ _).alloc (Nat.le_refl _) _
  have ZG := Lib.hid ((hbz.frozen (p := ⟨w.heap.size + 1, 0, none⟩) (by show w.heap.size + 1 < w1.heap.size; omega)).trans ZF.out)
  clear hbz
  go_wp2_with fail
  rw [HW2.out]
  clear lf_pa lf_za lf_ta lf_tc
  refine (byRanks_V ds A n c ss R k w1.heap.size _ ((HRa.out.below HB_2.out).call HB_2.out.size) ((HSI.out.below HB_2.out).call HB_2.out.size) tc_2 HQL.out).mono ?_
  rintro e3 w3 ⟨A3, c3, rfl, ho, hb⟩
  have hs3 : w2.heap.size ≤ w3.heap.size := hb.size
  have zf := (hb.frozen (p := ⟨w.heap.size + 1, 0, none⟩) (by show w.heap.size + 1 < w2.heap.size; omega)).trans ZG.out
  have HO3 := Lib.hid ho
  have HLT : Hid (∀ q, (Value.slice A3 (byR (rowR ss) ds).length c3).ownBlock = some q → w2.heap.size ≤ q) := Lib.hid (fun q hq => (ho.lt q hq).1)
  have pa_3 := keep1 hb pa_2
  have za_3 := keep1 hb za_2
  have ta_3 := keep1 hb ta_2
  have tc_3 := keep1 hb tc_2
  have HB_3 : Hid (Below w.heap.size w w3) := Lib.hid (HB_2.out.trans (hb.mono HB_2.out.size))
  clear ho hb pa_2 za_2 ta_2 tc_2 HB_2
  go_wp2
  refine bodyPost_ret (v := .tuple #[.agg #[.slice A3 (byR (rowR ss) ds).length c3], .bool true]) (by simp [results, Try.results44, go_sem, za_3]) rfl ?_
  exact ⟨A3, c3, by rw [HM.out, HO.out], by rw [HM.out]; exact own_base (own_setCell HO3.out (fun e => by have h1 := HLT.out _ e; simp only at h1; omega) _) (by omega), HB_3.out.setCell (by simp) _⟩

set_option maxHeartbeats 8000000 in
theorem specReval_any (ds : List D) (ss : List Int) (A R : Option Addr) (n c q k : Nat) (w : World) (ha : SD w w.heap.size A n c ds) (hs : SI w w.heap.size R q k ss) (hn : n ≤ 1048576) :
    Calls Try.prog 45 #[.agg #[.slice A n c], .slice R q k] w (EnumR (mReval ds ss) (tabN ds ss) w) := by
  have HRa := Lib.hid ha
  have HOA := Lib.hid ha.ok
  have HLA := Lib.hid ha.len
  clear ha
  have hl := HLA.out
  subst hl
  have hlq := hs.len
  subst hlq
  have hmq := hs.max
  have hcq := hs.cap
  unfold maxLen at hmq
  have HSI := Lib.hid hs
  clear hs
  obtain ⟨vt, hvt⟩ : ∃ v, tabN ds ss = v := ⟨_, rfl⟩
  have HVT := Lib.hid hvt
  obtain ⟨w0, hw⟩ : ∃ W : World, W = ((w.alloc (.cells #[.slice A ds.length c] 25)).alloc (.cells #[.slice none 0 0] 25)) := ⟨_, rfl⟩
  have hb : Below w.heap.size w w0 := by rw [hw]; exact (((Below.refl _ _).alloc (by first | exact Nat.le_refl _ | (simp; done) | (simp; omega)) _).alloc (by first | exact Nat.le_refl _ | (simp; done) | (simp; omega)) _)
  have hs0 : w.heap.size + 2 ≤ w0.heap.size := by rw [hw]; simp
  have pa_0 : w0.cell? ⟨w.heap.size, 0, none⟩ = some (.slice A ds.length c) := by rw [hw]; simp [go_sem]
  have za_0 : w0.cell? ⟨w.heap.size + 1, 0, none⟩ = some (.slice none 0 0) := by rw [hw]; simp [go_sem]
  have HB_0 := Lib.hid hb
  have HW0 : Hid (((w.alloc (.cells #[.slice A ds.length c] 25)).alloc (.cells #[.slice none 0 0] 25)) = w0) := Lib.hid hw.symm
  clear hb hw
  have HF0 : Hid (w0.frozen? ⟨w.heap.size + 1, 0, none⟩ = false) := Lib.hid (by rw [← HW0.out]; simp [go_sem])
  cases vt
  · skip
    have HO : Hid (tabN ds ss = false) := Lib.hid hvt
    have HM : Hid (mReval ds ss = []) := Lib.hid (by unfold mReval; rw [hvt]; rfl)
    clear hvt
    go_enter Try.func45, Try.ntmps45
    go_wp2_with fail
    rw [HW0.out]
    refine (validTab_v ds ss _ _ _ _ _ _ _ ((HRa.out.below HB_0.out).call HB_0.out.size) ((HSI.out.below HB_0.out).call HB_0.out.size) hn HVT.out).mono ?_
    rintro e w1 ⟨rfl, hb⟩
    have hs1 : w0.heap.size ≤ w1.heap.size := hb.size
    have pa_1 := keep1 hb pa_0
    have za_1 := keep1 hb za_0
    have HB_1 : Hid (Below w.heap.size w w1) := Lib.hid (HB_0.out.trans (hb.mono HB_0.out.size))
    have ZB := Lib.hid ((hb.frozen (p := ⟨w.heap.size + 1, 0, none⟩) hs0).trans HF0.out)
    clear hb  pa_0 za_0 HB_0
    have zf := ZB.out
    go_wp2
    refine bodyPost_ret (v := .tuple #[.agg #[.slice none 0 0], .bool false]) (by simp [results, Try.results45, go_sem, za_1]) rfl ?_
    exact ⟨none, 0, by rw [HM.out, HO.out]; rfl, by rw [HM.out]; exact World.ownsRow_nil _ _ _ _, HB_1.out.setCell (by simp) _⟩
  have HO : Hid (tabN ds ss = true) := Lib.hid hvt
  have hve := tabN_enum hvt
  have HV := Lib.hid hve
  have hn12 := vEnum_len hve
  have HM : Hid (mReval ds ss = rkL (rowR ss) ds) := Lib.hid (by unfold mReval; rw [hvt, if_pos rfl])
  have HQL := Lib.hid (tabN_len hvt)
  clear hvt hve
  go_enter Try.func45, Try.ntmps45
  go_wp2_with fail
  rw [HW0.out]
  refine (validTab_v ds ss _ _ _ _ _ _ _ ((HRa.out.below HB_0.out).call HB_0.out.size) ((HSI.out.below HB_0.out).call HB_0.out.size) hn HVT.out).mono ?_
  rintro e w1 ⟨rfl, hb⟩
  have hs1 : w0.heap.size ≤ w1.heap.size := hb.size
  have pa_1 := keep1 hb pa_0
  have za_1 := keep1 hb za_0
  have HB_1 : Hid (Below w.heap.size w w1) := Lib.hid (HB_0.out.trans (hb.mono HB_0.out.size))
  have ZB := Lib.hid ((hb.frozen (p := ⟨w.heap.size + 1, 0, none⟩) hs0).trans HF0.out)
  clear hb  pa_0 za_0 HB_0
  go_wp2_with fail
  refine (members_any ds _ _ _ _ ((HRa.out.below HB_1.out).call HB_1.out.size) (by omega)).mono ?_
  rintro e2 w2 ⟨A2, c2, rfl, ho, hb⟩
  have hs2 : w1.heap.size ≤ w2.heap.size := hb.size
  have zf := (hb.frozen (p := ⟨w.heap.size + 1, 0, none⟩) (by show w.heap.size + 1 < w1.heap.size; omega)).trans ZB.out
  have ZC := Lib.hid zf
  clear zf ZB
  have pa_2 := keep1 hb pa_1
  have za_2 := keep1 hb za_1
  have HB_2 : Hid (Below w.heap.size w w2) := Lib.hid (HB_1.out.trans (hb.mono HB_1.out.size))
  have RM_2 : Hid (w2.ownsRow w1.heap.size 60 2 (.slice A2 (mems ds).length c2) (mems ds).length (flat (mems ds))) := Lib.hid ho
  have RML : Hid (∀ q, (Value.slice A2 (mems ds).length c2).ownBlock = some q → w1.heap.size ≤ q ∧ q < w2.heap.size) := Lib.hid (fun q hq => ho.lt q hq)
  clear ho hb pa_1 za_1 HB_1
  go_wp2_with fail
  obtain ⟨G, hG⟩ : ∃ G, w2.heap.size = G := ⟨_, rfl⟩
  have hsG : w.heap.size ≤ G := by rw [← hG]; exact HB_2.out.size
  have H0 : Hid (Below G w2 (w2.alloc (.cells #[] 60))) := Lib.hid (by rw [← hG]; exact (Below.refl _ _).alloc (Nat.le_refl _) _)
  have H1 : Hid ((w2.alloc (.cells #[] 60)).ownsRow G 60 2 (.slice (some ⟨w2.heap.size, 0, none⟩) 0 0) 0 (flat ((rkL (rowR ss) ds).take 0))) := Lib.hid (by rw [← hG]; exact World.ownsRow_made w2 #[] 0 (Nat.le_refl _) (by unfold maxLen; omega) rfl)
  have HG := Lib.hid hG
  clear hG
  have HSA := Lib.hid ((HRa.out.below HB_2.out).call HB_2.out.size)
  have hcap := HSA.out.cap
  have hmx := HSA.out.max
  unfold maxLen at hmx
  go_wp2
  go_loopw [7, 8] (fun v i wr => ∃ k : Nat, k ≤ ds.length ∧ i = .int .i64 k ∧ Hid (wr.ownsRow G 60 2 v k (flat ((rkL (rowR ss) ds).take k))) ∧ Hid (Below G w2 wr)) (fun _ i _ => ds.length - (intOf i).toNat)
  case atStart => exact ⟨0, Nat.zero_le _, rfl, H1, H0⟩
  case round =>
    clear H0 H1
    obtain ⟨k, hk, rfl, hown, hbel⟩ := hrel
    have hbG : Hid (Below w2.heap.size w2 wr) := Lib.hid (by rw [HG.out]; exact hbel.out)
    have pa_w := keep1 hbG.out pa_2
    by_cases hlt : k < ds.length
    · obtain ⟨b, o, hA, hbb, d1, d2⟩ := (HSA.out.below hbG.out).at_ hlt
      subst hA
      obtain ⟨r, hr12, hrl, hrk⟩ := rk_in HV.out hlt
      have HRK := Lib.hid hrk
      have HFT := Lib.hid (flat_rk (rowR ss) hlt)
      rw [hrk] at HFT
      clear hrk
      have HMM := Lib.hid (((sd_of_own RM_2.out (mems_ok HOA.out)).below hbG.out).call hbG.out.size)
      have hgs : G ≤ wr.heap.size := by have := hbel.out.size; have := HG.out; omega
      have hi1 : (k : Int) < (ds.length : Int) := by omega
      have hi0 : (0 : Int) ≤ (k : Int) := by omega
      have lt1 : b < G := by rw [← HG.out]; exact hbb
      have lt0 : w.heap.size < G := by rw [← HG.out]; exact World.block_lt_of_cell? _ _ pa_2
      have hrs : r < ss.length := by rw [HQL.out]; exact hrl
      obtain ⟨bt, ot, hR, hbt, d3⟩ := (HSI.out.below (HB_2.out.trans (hbG.out.mono HB_2.out.size))).at_ hrs
      subst hR
      have HRR := Lib.hid (rowR_at hrs)
      rw [HRR.out] at HFT
      have hr1 : (r : Int) < (ss.length : Int) := by omega
      have hr0 : (0 : Int) ≤ (r : Int) := by omega
      have lt3 : bt < G := by have := HB_2.out.size; have := HG.out; omega
      go_wp2_with fail
      go_region_held3 (fun w' => w'.cell? ⟨w.heap.size, 0, none⟩ = some (.slice (some ⟨b, o, none⟩) ds.length c) ∧ w'.cell? ⟨b, o + k * 2, none⟩ = some (.string ds[k].name) ∧ w'.cell? ⟨b, o + k * 2 + 1, none⟩ = some (.int .i64 ds[k].val) ∧ w'.cell? ⟨bt, ot + r, none⟩ = some (.int .i64 ss[r]))
        (first | with_reducible exact ⟨pa_w, d1, d2, d3⟩ | exact ⟨pa_w, d1, d2, d3⟩ | with_reducible exact ⟨upa_w, ud1, ud2, ud3⟩ | exact ⟨keepA pa_w, keepA d1, keepA d2, keepA d3⟩ | go_keep)
        (first
          | (go_at_call 66; refine (valueAt_v (mems ds) _ _ _ _ _ (by first | exact HMM.out | exact HMM.out.drew | exact HMM.out.drewN _) HRK.out).mono ?_; rintro e w' ⟨rfl, rfl⟩)
          | (refine step_app_D rfl _ _ rfl G _ _ _ rfl (by first | exact hown.out.alloc _) _ _ _ _ rfl (heap_alloc_new _ _) (by omega) (by simp; omega) ?_; intro v' w4 ho4 hg4; have hb4 : Below G w2 w4 := (by first | exact (hbel.out.drew.alloc hgs _).grown hg4 (by simp; omega) (fun q hq => (hown.out.lt q hq).1) | exact (hbel.out.alloc hgs _).grown hg4 (by simp; omega) (fun q hq => (hown.out.lt q hq).1)); have upa_w := hg4.cell (keepA pa_w) (fun e => by have h : G ≤ w.heap.size := (hown.out.lt _ e.symm).1; omega); have ud1 := hg4.cell (keepA d1) (fun e => by have h : G ≤ b := (hown.out.lt _ e.symm).1; omega); have ud2 := hg4.cell (keepA d2) (fun e => by have h : G ≤ b := (hown.out.lt _ e.symm).1; omega); have ud3 := hg4.cell (keepA d3) (fun e => by have h : G ≤ bt := (hown.out.lt _ e.symm).1; omega)))
      all_goals
        go_wp2
        go_roundw
        case rel => exact ⟨k + 1, by omega, by go_num, Lib.hid (by rw [HFT.out]; exact ho4), Lib.hid hb4⟩
        case measure => simp [intOf]; omega
    · obtain rfl : k = ds.length := by omega
      obtain ⟨A9, c9, hv9⟩ := own_form hown.out
      subst hv9
      have HO9 : Hid (wr.ownsRow G 60 2 (.slice A9 (rkL (rowR ss) ds).length c9) (rkL (rowR ss) ds).length (flat (rkL (rowR ss) ds))) := Lib.hid (by have h := hown.out; rw [List.take_of_length_le (by rw [rkL_len]; exact Nat.le_refl _)] at h; rw [rkL_len]; exact h)
      have HB9 : Hid (Below w.heap.size w wr) := Lib.hid (HB_2.out.trans (hbG.out.mono HB_2.out.size))
      have zw := keep1 hbG.out za_2
      have zf := (hbG.out.frozen (p := ⟨w.heap.size + 1, 0, none⟩) (by show w.heap.size + 1 < w2.heap.size; omega)).trans ZC.out
      have HLK := Lib.hid (rkL_len (rowR ss) ds)
      go_wp2
      refine bodyPost_ret (v := .tuple #[.agg #[.slice A9 (rkL (rowR ss) ds).length c9], .bool true]) (by simp [results, Try.results45, go_sem, zw, HLK.out]) rfl ?_
      exact ⟨A9, c9, by rw [HM.out, HO.out], by rw [HM.out]; exact own_base (own_setCell HO9.out (fun e => by have := (HO9.out.lt _ e).1; have := HG.out; simp only at *; omega) _) hsG, HB9.out.setCell (by simp) _⟩
end Go.Proofs.Ytcbhfaijlmckbaa
