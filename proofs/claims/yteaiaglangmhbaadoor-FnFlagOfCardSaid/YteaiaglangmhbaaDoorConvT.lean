import Derived.Test.YteaiaglangmhbaaDoorConvI
namespace Go.Proofs.YteaiaglangmhbaaDoor
open Go.RowKit Go.Maps
set_option linter.unusedVariables false
set_option maxRecDepth 100000


set_option maxHeartbeats 1000000 in
theorem bitOf_v (r : Nat) (hr : r < 12) (w : World) : Calls Tryd.prog 85 #[.int .i64 r] w fun e w' => e = .returned (.int .i64 (bitR r)) ∧ w' = w := by
  have HR := Lib.hid (bitR_n r)
  go_enter Tryd.func85, Tryd.ntmps85
  go_wp2
  go_loopw [3, 4] (fun v i wr => ∃ k p : Nat, k ≤ r ∧ v = .int .i64 p ∧ i = .int .i64 k ∧ Hid (p = 2 ^ k) ∧ p ≤ 4096 ∧ Hid (wr = w)) (fun _ i _ => r - (intOf i).toNat)
  case atStart => exact ⟨0, 1, Nat.zero_le _, rfl, rfl, Lib.hid rfl, by omega, Lib.hid rfl⟩
  case round =>
    obtain ⟨k, p, hk, rfl, rfl, hp, hp4, hw⟩ := hrel
    by_cases hlt : k < r
    · have hi1 : (k : Int) < (r : Int) := by omega
      have hpl : p ≤ 2048 := by rw [hp.out]; exact Nat.pow_le_pow_right (n := 2) (by decide) (show k ≤ 11 by omega)
      go_wp2
      go_roundw
      case rel => exact ⟨k + 1, 2 * p, by omega, by go_num, by go_num, Lib.hid (by rw [hp.out, Nat.pow_succ, Nat.mul_comm]), by omega, hw⟩
      case measure => simp [intOf]; omega
    · obtain rfl : k = r := by omega
      have HP : Hid (bitR k = (p : Int)) := Lib.hid (by rw [HR.out, hp.out])
      go_wp2
      go_ret
      exact ⟨ret_int HP.out.symm, hw.out⟩

set_option maxHeartbeats 8000000 in
theorem rankDefs_any (ds : List D) (A : Option Addr) (n c : Nat) (w : World) (ha : SD w w.heap.size A n c ds) (hva : vEnum ds = true) :
    Calls Tryd.prog 55 #[.agg #[.slice A n c]] w (DefsP (rkL bitR ds) w) := by
  have HRa := Lib.hid ha
  have HOA := Lib.hid ha.ok
  have HLA := Lib.hid ha.len
  clear ha
  have hl := HLA.out
  subst hl
  have HV := Lib.hid hva
  have hn12 := vEnum_len hva
  clear hva
  obtain ⟨w0, hw⟩ : ∃ W : World, W = (w.alloc (.cells #[.slice A ds.length c] 28)) := ⟨_, rfl⟩
  have hb : Below w.heap.size w w0 := by rw [hw]; exact ((Below.refl _ _).alloc (by first | exact Nat.le_refl _ | (simp; done) | (simp; omega)) _)
  have hs0 : w.heap.size + 1 ≤ w0.heap.size := by rw [hw]; simp
  have pa_0 : w0.cell? ⟨w.heap.size, 0, none⟩ = some (.slice A ds.length c) := by rw [hw]; simp [go_sem]
  have HB_0 := Lib.hid hb
  have HW0 : Hid ((w.alloc (.cells #[.slice A ds.length c] 28)) = w0) := Lib.hid hw.symm
  clear hb hw
  go_enter Tryd.func55, Tryd.ntmps55
  go_wp2_with fail
  rw [HW0.out]
  refine (members_any ds _ _ _ _ ((HRa.out.below HB_0.out).call HB_0.out.size) (by omega)).mono ?_
  rintro e2 w1 ⟨A2, c2, rfl, ho, hb⟩
  have hs1 : w0.heap.size ≤ w1.heap.size := hb.size
  have pa_1 := keep1 hb pa_0
  have HB_1 : Hid (Below w.heap.size w w1) := Lib.hid (HB_0.out.trans (hb.mono HB_0.out.size))
  have RM_1 : Hid (w1.ownsRow w0.heap.size 53 2 (.slice A2 (mems ds).length c2) (mems ds).length (flat (mems ds))) := Lib.hid ho
  have RML : Hid (∀ q, (Value.slice A2 (mems ds).length c2).ownBlock = some q → w0.heap.size ≤ q ∧ q < w1.heap.size) := Lib.hid (fun q hq => ho.lt q hq)
  clear ho hb pa_0 HB_0
  go_wp2_with fail
  obtain ⟨G, hG⟩ : ∃ G, w1.heap.size = G := ⟨_, rfl⟩
  have hsG : w.heap.size ≤ G := by rw [← hG]; exact HB_1.out.size
  have H0 : Hid (Below G w1 (w1.alloc (.cells #[] 53))) := Lib.hid (by rw [← hG]; exact (Below.refl _ _).alloc (Nat.le_refl _) _)
  have H1 : Hid ((w1.alloc (.cells #[] 53)).ownsRow G 53 2 (.slice (some ⟨w1.heap.size, 0, none⟩) 0 0) 0 (flat ((rkL bitR ds).take 0))) := Lib.hid (by rw [← hG]; exact World.ownsRow_made w1 #[] 0 (Nat.le_refl _) (by unfold maxLen; omega) rfl)
  have HG := Lib.hid hG
  clear hG
  have HSA := Lib.hid ((HRa.out.below HB_1.out).call HB_1.out.size)
  have hcap := HSA.out.cap
  have hmx := HSA.out.max
  unfold maxLen at hmx
  go_wp2
  go_loopw [4, 5] (fun v i wr => ∃ k : Nat, k ≤ ds.length ∧ i = .int .i64 k ∧ Hid (wr.ownsRow G 53 2 v k (flat ((rkL bitR ds).take k))) ∧ Hid (Below G w1 wr)) (fun _ i _ => ds.length - (intOf i).toNat)
  case atStart => exact ⟨0, Nat.zero_le _, rfl, H1, H0⟩
  case round =>
    clear H0 H1
    obtain ⟨k, hk, rfl, hown, hbel⟩ := hrel
    have hbG : Hid (Below w1.heap.size w1 wr) := Lib.hid (by rw [HG.out]; exact hbel.out)
    have pa_w := keep1 hbG.out pa_1
    by_cases hlt : k < ds.length
    · obtain ⟨b, o, hA, hbb, d1, d2⟩ := (HSA.out.below hbG.out).at_ hlt
      subst hA
      obtain ⟨r, hr12, hrl, hrk⟩ := rk_in HV.out hlt
      have HRK := Lib.hid hrk
      have HFT := Lib.hid (flat_rk bitR hlt)
      rw [hrk] at HFT
      clear hrk
      have HMM := Lib.hid (((sd_of_own RM_1.out (mems_ok HOA.out)).below hbG.out).call hbG.out.size)
      have hgs : G ≤ wr.heap.size := by have := hbel.out.size; have := HG.out; omega
      have hi1 : (k : Int) < (ds.length : Int) := by omega
      have hi0 : (0 : Int) ≤ (k : Int) := by omega
      have lt1 : b < G := by rw [← HG.out]; exact hbb
      have lt0 : w.heap.size < G := by rw [← HG.out]; exact World.block_lt_of_cell? _ _ pa_1
      go_wp2_with fail
      go_region_held3 (fun w' => w'.cell? ⟨w.heap.size, 0, none⟩ = some (.slice (some ⟨b, o, none⟩) ds.length c) ∧ w'.cell? ⟨b, o + k * 2, none⟩ = some (.string ds[k].name) ∧ w'.cell? ⟨b, o + k * 2 + 1, none⟩ = some (.int .i64 ds[k].val))
        (first | with_reducible exact ⟨pa_w, d1, d2⟩ | exact ⟨pa_w, d1, d2⟩ | with_reducible exact ⟨upa_w, ud1, ud2⟩ | exact ⟨keepA pa_w, keepA d1, keepA d2⟩ | go_keep)
        (first
          | (go_at_call 86; refine (valueAt_v (mems ds) _ _ _ _ _ (by first | exact HMM.out | exact HMM.out.drew | exact HMM.out.drewN _) HRK.out).mono ?_; rintro e w' ⟨rfl, rfl⟩)
          | (go_at_call 85; refine (bitOf_v r hr12 _).mono ?_; rintro e w' ⟨rfl, rfl⟩)
          | (refine step_app_D rfl _ _ rfl G _ _ _ rfl (by first | exact hown.out.alloc _) _ _ _ _ rfl (heap_alloc_new _ _) (by omega) (by simp; omega) ?_; intro v' w4 ho4 hg4; have hb4 : Below G w1 w4 := (by first | exact (hbel.out.drew.alloc hgs _).grown hg4 (by simp; omega) (fun q hq => (hown.out.lt q hq).1) | exact (hbel.out.alloc hgs _).grown hg4 (by simp; omega) (fun q hq => (hown.out.lt q hq).1)); have upa_w := hg4.cell (keepA pa_w) (fun e => by have h : G ≤ w.heap.size := (hown.out.lt _ e.symm).1; omega); have ud1 := hg4.cell (keepA d1) (fun e => by have h : G ≤ b := (hown.out.lt _ e.symm).1; omega); have ud2 := hg4.cell (keepA d2) (fun e => by have h : G ≤ b := (hown.out.lt _ e.symm).1; omega)))
      all_goals
        go_wp2
        go_roundw
        case rel => exact ⟨k + 1, by omega, by go_num, Lib.hid (by rw [HFT.out]; exact ho4), Lib.hid hb4⟩
        case measure => simp [intOf]; omega
    · obtain rfl : k = ds.length := by omega
      obtain ⟨A9, c9, hv9⟩ := own_form hown.out
      subst hv9
      have HO9 : Hid (wr.ownsRow G 53 2 (.slice A9 (rkL bitR ds).length c9) (rkL bitR ds).length (flat (rkL bitR ds))) := Lib.hid (by have h := hown.out; rw [List.take_of_length_le (by rw [rkL_len]; exact Nat.le_refl _)] at h; rw [rkL_len]; exact h)
      have HB9 : Hid (Below w.heap.size w wr) := Lib.hid (HB_1.out.trans (hbG.out.mono HB_1.out.size))
      have HLK := Lib.hid (rkL_len bitR ds)
      go_wp2
      go_ret
      exact ⟨A9, c9, by rw [HLK.out]; first | done | rfl, own_base HO9.out hsG, HB9.out⟩


/-- A class of flags in new memory. -/
def FlagE (ms : List D) (rb : Int) (w : World) (e : Ending) (w' : World) : Prop :=
  ∃ A c, e = .returned (.agg #[.slice A ms.length c, .int .i64 rb]) ∧ w'.ownsRow w.heap.size 53 2 (.slice A ms.length c) ms.length (flat ms) ∧ Below w.heap.size w w'

set_option maxHeartbeats 4000000 in
theorem specFlagOf_any (ds : List D) (A : Option Addr) (n c : Nat) (w : World) (ha : SD w w.heap.size A n c ds) :
    Calls Tryd.prog 26 #[.agg #[.slice A n c]] w (FlagE (mBits ds) 0 w) := by
  have HRa := Lib.hid ha
  have HOA := Lib.hid ha.ok
  have HLA := Lib.hid ha.len
  clear ha
  obtain ⟨va, hva⟩ : ∃ v, vEnum ds = v := ⟨_, rfl⟩
  have HV := Lib.hid hva
  obtain ⟨w0, hw⟩ : ∃ W : World, W = ((w.alloc (.cells #[.slice A n c] 28)).alloc (.cells #[.slice none 0 0, .int .i64 0] 31)) := ⟨_, rfl⟩
  have hb : Below w.heap.size w w0 := by rw [hw]; exact (((Below.refl _ _).alloc (by first | exact Nat.le_refl _ | (simp; done) | (simp; omega)) _).alloc (by first | exact Nat.le_refl _ | (simp; done) | (simp; omega)) _)
  have hs0 : w.heap.size + 2 ≤ w0.heap.size := by rw [hw]; simp
  have pa_0 : w0.cell? ⟨w.heap.size, 0, none⟩ = some (.slice A n c) := by rw [hw]; simp [go_sem]
  have za_0 : w0.cell? ⟨w.heap.size + 1, 0, none⟩ = some (.slice none 0 0) := by rw [hw]; simp [go_sem]
  have zb_0 : w0.cell? ⟨w.heap.size + 1, 1, none⟩ = some (.int .i64 0) := by rw [hw]; simp [go_sem]
  have HB_0 := Lib.hid hb
  have HW0 : Hid (((w.alloc (.cells #[.slice A n c] 28)).alloc (.cells #[.slice none 0 0, .int .i64 0] 31)) = w0) := Lib.hid hw.symm
  clear hb hw
  have HF0 : Hid (w0.frozen? ⟨w.heap.size + 1, 0, none⟩ = false ∧ w0.frozen? ⟨w.heap.size + 1, 1, none⟩ = false) := Lib.hid (by rw [← HW0.out]; simp [go_sem])
  cases va
  · clear hva
    have HM : Hid (mBits ds = []) := Lib.hid (mBits_no HV.out)
    go_enter Tryd.func26, Tryd.ntmps26
    go_wp2_with fail
    rw [HW0.out]
    refine (specVE_v ds _ _ _ _ ((HRa.out.below HB_0.out).call HB_0.out.size) HV.out).mono ?_
    rintro e w1 ⟨rfl, hb⟩
    have hs1 : w0.heap.size ≤ w1.heap.size := hb.size
    have pa_1 := keep1 hb pa_0
    have za_1 := keep1 hb za_0
    have zb_1 := keep1 hb zb_0
    have HB_1 : Hid (Below w.heap.size w w1) := Lib.hid (HB_0.out.trans (hb.mono HB_0.out.size))
    obtain ⟨zf, zg⟩ := And.intro ((hb.frozen (p := ⟨w.heap.size + 1, 0, none⟩) hs0).trans HF0.out.1) ((hb.frozen (p := ⟨w.heap.size + 1, 1, none⟩) hs0).trans HF0.out.2)
    clear hb  pa_0 za_0 zb_0 HB_0
    go_wp2
    refine bodyPost_ret (v := .agg #[.slice none 0 0, .int .i64 0]) (by simp [results, Tryd.results26, go_sem, za_1, zb_1]) rfl ?_
    rw [HM.out]
    exact ⟨none, 0, rfl, World.ownsRow_nil _ _ _ _, (HB_1.out.setCell (by simp) _).setCell (by simp) _⟩
  clear hva
  go_enter Tryd.func26, Tryd.ntmps26
  go_wp2_with fail
  rw [HW0.out]
  refine (specVE_v ds _ _ _ _ ((HRa.out.below HB_0.out).call HB_0.out.size) HV.out).mono ?_
  rintro e w1 ⟨rfl, hb⟩
  have hs1 : w0.heap.size ≤ w1.heap.size := hb.size
  have pa_1 := keep1 hb pa_0
  have za_1 := keep1 hb za_0
  have zb_1 := keep1 hb zb_0
  have HB_1 : Hid (Below w.heap.size w w1) := Lib.hid (HB_0.out.trans (hb.mono HB_0.out.size))
  have ZF := Lib.hid (And.intro ((hb.frozen (p := ⟨w.heap.size + 1, 0, none⟩) hs0).trans HF0.out.1) ((hb.frozen (p := ⟨w.heap.size + 1, 1, none⟩) hs0).trans HF0.out.2))
  clear hb  pa_0 za_0 zb_0 HB_0
  go_wp2_with fail
  refine (rankDefs_any ds _ _ _ _ ((HRa.out.below HB_1.out).call HB_1.out.size) HV.out).mono ?_
  rintro e2 w2 ⟨A2, c2, rfl, ho, hb⟩
  have hs2 : w1.heap.size ≤ w2.heap.size := hb.size
  have pa_2 := keep1 hb pa_1
  have za_2 := keep1 hb za_1
  have zb_2 := keep1 hb zb_1
  have HB_2 : Hid (Below w.heap.size w w2) := Lib.hid (HB_1.out.trans (hb.mono HB_1.out.size))
  rw [← mBits_yes HV.out]
  rw [← mBits_yes HV.out] at ho
  have HO := Lib.hid ho
  have HS := Lib.hid (sd_of_own ho (mBits_ok HOA.out))
  have zf := (hb.frozen (p := ⟨w.heap.size + 1, 0, none⟩) (by show w.heap.size + 1 < w1.heap.size; omega)).trans ZF.out.1
  have zg := (hb.frozen (p := ⟨w.heap.size + 1, 1, none⟩) (by show w.heap.size + 1 < w1.heap.size; omega)).trans ZF.out.2
  clear ho hb HS pa_1 za_1 zb_1 HB_1
  go_wp2
  refine bodyPost_ret (v := .agg #[.slice A2 (mBits ds).length c2, .int .i64 0]) (by simp [results, Tryd.results26, go_sem, za_2, zb_2]) rfl ?_
  exact ⟨A2, c2, rfl, own_base (own_setCell (own_setCell HO.out (fun e => by have := (HO.out.lt _ e).1; simp at this; omega) _) (fun e => by have := (HO.out.lt _ e).1; simp at this; omega) _) (by omega), (HB_2.out.setCell (by simp) _).setCell (by simp) _⟩
end Go.Proofs.YteaiaglangmhbaaDoor
