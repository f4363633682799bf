import Derived.Test.YteaiaglangmhbaaDoorConvT
import Derived.Test.YteaiaglangmhbaaDoorAlgJ
namespace Go.Proofs.YteaiaglangmhbaaDoor
open Go.RowKit Go.Maps
set_option linter.unusedVariables false
set_option maxRecDepth 100000


theorem renum1_v (r : Nat) (w : World) : Calls Tryd.prog 56 #[.int .i64 r] w fun e w' => e = .returned (.int .i64 (idR r)) ∧ w' = w := by
  have HI : Hid (idR r = (r : Int)) := Lib.hid rfl
  go_enter Tryd.func56, Tryd.ntmps56
  go_wp2
  go_ret
  exact ⟨ret_int HI.out.symm, rfl⟩
theorem flag1_v (r : Nat) (hr : r < 12) (w : World) : Calls Tryd.prog 53 #[.int .i64 r] w fun e w' => e = .returned (.int .i64 (bitR r)) ∧ w' = w := by
  rcases (show r = 0 ∨ r = 1 ∨ r = 2 ∨ r = 3 ∨ r = 4 ∨ r = 5 ∨ r = 6 ∨ r = 7 ∨ r = 8 ∨ r = 9 ∨ r = 10 ∨ r = 11 by omega) with rfl | rfl | rfl | rfl | rfl | rfl | rfl | rfl | rfl | rfl | rfl | rfl
  all_goals
    go_enter Tryd.func53, Tryd.ntmps53
    go_wp2
    go_ret
    exact ⟨rfl, rfl⟩

set_option maxHeartbeats 8000000 in
theorem byRanks_R (ds : List D) (A : Option Addr) (n c : Nat) (w : World) (ha : SD w w.heap.size A n c ds) :
    Calls Tryd.prog 52 #[.agg #[.slice A n c], .func (.func 56) #[] #[]] w (DefsP (byR idR ds) w) := by
  have HRa := Lib.hid ha
  have HOA := Lib.hid ha.ok
  have HLA := Lib.hid ha.len
  clear ha
  obtain ⟨va, hva⟩ : ∃ v, vEnum ds = v := ⟨_, rfl⟩
  have HV := Lib.hid hva
  obtain ⟨w0, hw⟩ : ∃ W : World, W = (w.alloc (.cells #[.slice A n c] 28)) := ⟨_, rfl⟩
  have hb : Below w.heap.size w w0 := by rw [hw]; exact ((Below.refl _ _).alloc (by first | exact Nat.le_refl _ | (simp; done) | (simp; omega)) _)
  have hs0 : w.heap.size + 1 ≤ w0.heap.size := by rw [hw]; simp
  have pa_0 : w0.cell? ⟨w.heap.size, 0, none⟩ = some (.slice A n c) := by rw [hw]; simp [go_sem]
  have HB_0 := Lib.hid hb
  have HW0 : Hid ((w.alloc (.cells #[.slice A n c] 28)) = w0) := Lib.hid hw.symm
  clear hb hw
  cases va
  · clear hva
    have HM : Hid (byR idR ds = []) := Lib.hid (by unfold byR; rw [HV.out]; rfl)
    go_enter Tryd.func52, Tryd.ntmps52
    go_wp2_with fail
    rw [HW0.out]
    refine (implVE_v ds _ _ _ _ ((HRa.out.below HB_0.out).call HB_0.out.size) HV.out).mono ?_
    rintro e w1 ⟨rfl, hb⟩
    have hs1 : w0.heap.size ≤ w1.heap.size := hb.size
    have pa_1 := keep1 hb pa_0
    have HB_1 : Hid (Below w.heap.size w w1) := Lib.hid (HB_0.out.trans (hb.mono HB_0.out.size))
    clear hb  pa_0 HB_0
    go_wp2
    go_ret
    exact ⟨none, 0, by rw [HM.out]; rfl, by rw [HM.out]; exact World.ownsRow_nil _ _ _ _, HB_1.out⟩
  have HM : Hid (byR idR ds = rkL idR ds) := Lib.hid (by unfold byR; rw [HV.out, if_pos rfl])
  have hn12 : ds.length ≤ 12 := vEnum_len hva
  have hl := HLA.out
  subst hl
  clear hva
  go_enter Tryd.func52, Tryd.ntmps52
  go_wp2_with fail
  rw [HW0.out]
  refine (implVE_v ds _ _ _ _ ((HRa.out.below HB_0.out).call HB_0.out.size) HV.out).mono ?_
  rintro e w1 ⟨rfl, hb⟩
  have hs1 : w0.heap.size ≤ w1.heap.size := hb.size
  have pa_1 := keep1 hb pa_0
  have HB_1 : Hid (Below w.heap.size w w1) := Lib.hid (HB_0.out.trans (hb.mono HB_0.out.size))
  clear hb  pa_0 HB_0
  have HSA := Lib.hid ((HRa.out.below HB_1.out).call HB_1.out.size)
  have hcap := HSA.out.cap
  have hmx := HSA.out.max
  unfold maxLen at hmx
  obtain ⟨G, hG⟩ : ∃ G, w1.heap.size = G := ⟨_, rfl⟩
  have hsG : w.heap.size ≤ G := by rw [← hG]; exact HB_1.out.size
  have HG := Lib.hid hG
  clear hG
  go_wp2
  go_loopw [5, 14] (fun v i wr => ∃ k : Nat, k ≤ ds.length ∧ i = .int .i64 k ∧ Hid (wr.ownsRow G 53 2 v k (flat ((rkL idR ds).take k))) ∧ Hid (Below G w1 wr)) (fun _ i _ => ds.length - (intOf i).toNat)
  case atStart => exact ⟨0, Nat.zero_le _, rfl, Lib.hid (World.ownsRow_nil _ _ _ _), Lib.hid (by rw [← HG.out]; exact Below.refl _ _)⟩
  case round =>
    obtain ⟨k, hk, rfl, hown, hbel⟩ := hrel
    have hbG : Hid (Below w1.heap.size w1 wr) := Lib.hid (by rw [HG.out]; exact hbel.out)
    by_cases hlt : k < ds.length
    · obtain ⟨b, o, hA, hbb, d1, d2⟩ := (HSA.out.below hbG.out).at_ hlt
      subst hA
      obtain ⟨r, hr12, hrl, hrk⟩ := rk_in HV.out hlt
      have HRK := Lib.hid hrk
      have HFT := Lib.hid (flat_rk idR hlt)
      rw [hrk] at HFT
      clear hrk
      have HNF := Lib.hid (nm_first HV.out k hlt)
      have hgs : G ≤ wr.heap.size := by have := hbel.out.size; have := HG.out; omega
      have hi1 : (k : Int) < (ds.length : Int) := by omega
      have hi0 : (0 : Int) ≤ (k : Int) := by omega
      obtain ⟨w5, hw5⟩ : ∃ W : World, W = (wr.alloc (.cells #[.string ds[k].name, .int .i64 ds[k].val] 53)) := ⟨_, rfl⟩
      have hb5 : Below wr.heap.size wr w5 := by rw [hw5]; exact (Below.refl _ _).alloc (Nat.le_refl _) _
      have pa_w := keep1 hbG.out pa_1
      have pa_5 := keep1 hb5 pa_w
      have e0 : w5.cell? ⟨wr.heap.size, 0, none⟩ = some (.string ds[k].name) := by rw [hw5]; simp [go_sem]
      have e1 : w5.cell? ⟨wr.heap.size, 1, none⟩ = some (.int .i64 ds[k].val) := by rw [hw5]; simp [go_sem]
      have HS5 := Lib.hid (((HSA.out.below hbG.out).call hbG.out.size).below hb5 |>.call hb5.size)
      have HO5 := Lib.hid (hown.out.alloc (.cells #[.string ds[k].name, .int .i64 ds[k].val] 53))
      rw [← hw5] at HO5
      have HB5 : Hid (Below G w1 w5) := Lib.hid (hbel.out.trans (hb5.mono hgs))
      have hs5 : G ≤ w5.heap.size := by have := hb5.size; omega
      have HW5 := Lib.hid hw5.symm
      clear hw5
      go_wp2_with fail
      rw [HW5.out]
      clear hb5 d1 d2
      go_region_held3 (fun w' => w'.cell? ⟨w.heap.size, 0, none⟩ = some (.slice (some ⟨b, o, none⟩) ds.length c) ∧ w'.cell? ⟨wr.heap.size, 0, none⟩ = some (.string ds[k].name))
        (first | with_reducible exact ⟨pa_5, e0⟩ | with_reducible exact ⟨y0, y1⟩ | with_reducible exact ⟨keepA y0, keepA y1⟩ | with_reducible exact ⟨u0, u1⟩ | go_keep | exact ⟨keepA y0, keepA y1⟩)
        (first
          | (go_at_call 83; refine (HRK.out ▸ implRankOf_yes ds ds[k].name _ _ _ _ (by first | exact HS5.out | exact HS5.out.drew | exact HS5.out.drewN _) HV.out k hlt HNF.out).mono ?_; rintro e6 w6 ⟨rfl, hb6⟩; replace hb6 : Below w5.heap.size w5 w6 := (by first | exact hb6 | exact undrew hb6); have y0 := keep1 hb6 pa_5; have y1 := keep1 hb6 e0; have ho6 := own_below HO5.out hb6)
          | (go_at_call 56; have hcc := renum1_v r w6; refine hcc.mono ?_; rintro e7 w7 ⟨rfl, rfl⟩)
          | (refine step_app_D rfl _ _ rfl G _ _ _ rfl (ho6.alloc _) _ _ _ _ rfl (heap_alloc_new _ _) (by omega) (by have := hb6.size; simp; omega) ?_; intro v' w8 ho8 hg8; have hb8 : Below G w1 w8 := (((HB5.out.trans (hb6.mono hs5)).alloc (by have := hb6.size; omega) _).grown hg8 (by have := hb6.size; simp; omega) (fun q hq => (ho6.lt q hq).1)); have u0 := (hb8.cell (p := ⟨w.heap.size, 0, none⟩) (by show w.heap.size < G; have h1 : w.heap.size < w1.heap.size := World.block_lt_of_cell? _ _ pa_1; have := HG.out; omega)).trans pa_1; have u1 := hg8.cell (keepA y1) (fun e => by have := (hown.out.lt _ e.symm).2; simp only at this; omega)))
      all_goals
        go_wp2
        go_roundw
        case rel => exact ⟨k + 1, by omega, by go_num, Lib.hid (by rw [HFT.out]; exact ho8), Lib.hid hb8⟩
        case measure => simp [intOf]; omega
    · obtain rfl : k = ds.length := by omega
      obtain ⟨A9, c9, hv9⟩ := own_form hown.out
      subst hv9
      have HO9 : Hid (wr.ownsRow G 53 2 (.slice A9 ds.length c9) (rkL idR ds).length (flat (rkL idR ds))) := Lib.hid (by have h := hown.out; rw [List.take_of_length_le (by rw [rkL_len]; exact Nat.le_refl _)] at h; rw [rkL_len]; exact h)
      go_wp2
      go_ret
      refine ⟨A9, c9, by rw [HM.out, rkL_len]; rfl, ?_, HB_1.out.trans (hbG.out.mono HB_1.out.size)⟩
      rw [HM.out]
      have h := own_base HO9.out hsG
      rw [rkL_len] at h ⊢
      exact h

set_option maxHeartbeats 8000000 in
theorem byRanks_F (ds : List D) (A : Option Addr) (n c : Nat) (w : World) (ha : SD w w.heap.size A n c ds) :
    Calls Tryd.prog 52 #[.agg #[.slice A n c], .func (.func 53) #[] #[]] w (DefsP (byR bitR ds) w) := by
  have HRa := Lib.hid ha
  have HOA := Lib.hid ha.ok
  have HLA := Lib.hid ha.len
  clear ha
  obtain ⟨va, hva⟩ : ∃ v, vEnum ds = v := ⟨_, rfl⟩
  have HV := Lib.hid hva
  obtain ⟨w0, hw⟩ : ∃ W : World, W = (w.alloc (.cells #[.slice A n c] 28)) := ⟨_, rfl⟩
  have hb : Below w.heap.size w w0 := by rw [hw]; exact ((Below.refl _ _).alloc (by first | exact Nat.le_refl _ | (simp; done) | (simp; omega)) _)
  have hs0 : w.heap.size + 1 ≤ w0.heap.size := by rw [hw]; simp
  have pa_0 : w0.cell? ⟨w.heap.size, 0, none⟩ = some (.slice A n c) := by rw [hw]; simp [go_sem]
  have HB_0 := Lib.hid hb
  have HW0 : Hid ((w.alloc (.cells #[.slice A n c] 28)) = w0) := Lib.hid hw.symm
  clear hb hw
  cases va
  · clear hva
    have HM : Hid (byR bitR ds = []) := Lib.hid (by unfold byR; rw [HV.out]; rfl)
    go_enter Tryd.func52, Tryd.ntmps52
    go_wp2_with fail
    rw [HW0.out]
    refine (implVE_v ds _ _ _ _ ((HRa.out.below HB_0.out).call HB_0.out.size) HV.out).mono ?_
    rintro e w1 ⟨rfl, hb⟩
    have hs1 : w0.heap.size ≤ w1.heap.size := hb.size
    have pa_1 := keep1 hb pa_0
    have HB_1 : Hid (Below w.heap.size w w1) := Lib.hid (HB_0.out.trans (hb.mono HB_0.out.size))
    clear hb  pa_0 HB_0
    go_wp2
    go_ret
    exact ⟨none, 0, by rw [HM.out]; rfl, by rw [HM.out]; exact World.ownsRow_nil _ _ _ _, HB_1.out⟩
  have HM : Hid (byR bitR ds = rkL bitR ds) := Lib.hid (by unfold byR; rw [HV.out, if_pos rfl])
  have hn12 : ds.length ≤ 12 := vEnum_len hva
  have hl := HLA.out
  subst hl
  clear hva
  go_enter Tryd.func52, Tryd.ntmps52
  go_wp2_with fail
  rw [HW0.out]
  refine (implVE_v ds _ _ _ _ ((HRa.out.below HB_0.out).call HB_0.out.size) HV.out).mono ?_
  rintro e w1 ⟨rfl, hb⟩
  have hs1 : w0.heap.size ≤ w1.heap.size := hb.size
  have pa_1 := keep1 hb pa_0
  have HB_1 : Hid (Below w.heap.size w w1) := Lib.hid (HB_0.out.trans (hb.mono HB_0.out.size))
  clear hb  pa_0 HB_0
  have HSA := Lib.hid ((HRa.out.below HB_1.out).call HB_1.out.size)
  have hcap := HSA.out.cap
  have hmx := HSA.out.max
  unfold maxLen at hmx
  obtain ⟨G, hG⟩ : ∃ G, w1.heap.size = G := ⟨_, rfl⟩
  have hsG : w.heap.size ≤ G := by rw [← hG]; exact HB_1.out.size
  have HG := Lib.hid hG
  clear hG
  go_wp2
  go_loopw [5, 14] (fun v i wr => ∃ k : Nat, k ≤ ds.length ∧ i = .int .i64 k ∧ Hid (wr.ownsRow G 53 2 v k (flat ((rkL bitR ds).take k))) ∧ Hid (Below G w1 wr)) (fun _ i _ => ds.length - (intOf i).toNat)
  case atStart => exact ⟨0, Nat.zero_le _, rfl, Lib.hid (World.ownsRow_nil _ _ _ _), Lib.hid (by rw [← HG.out]; exact Below.refl _ _)⟩
  case round =>
    obtain ⟨k, hk, rfl, hown, hbel⟩ := hrel
    have hbG : Hid (Below w1.heap.size w1 wr) := Lib.hid (by rw [HG.out]; exact hbel.out)
    by_cases hlt : k < ds.length
    · obtain ⟨b, o, hA, hbb, d1, d2⟩ := (HSA.out.below hbG.out).at_ hlt
      subst hA
      obtain ⟨r, hr12, hrl, hrk⟩ := rk_in HV.out hlt
      have HRK := Lib.hid hrk
      have HFT := Lib.hid (flat_rk bitR hlt)
      rw [hrk] at HFT
      clear hrk
      have HNF := Lib.hid (nm_first HV.out k hlt)
      have hgs : G ≤ wr.heap.size := by have := hbel.out.size; have := HG.out; omega
      have hi1 : (k : Int) < (ds.length : Int) := by omega
      have hi0 : (0 : Int) ≤ (k : Int) := by omega
      obtain ⟨w5, hw5⟩ : ∃ W : World, W = (wr.alloc (.cells #[.string ds[k].name, .int .i64 ds[k].val] 53)) := ⟨_, rfl⟩
      have hb5 : Below wr.heap.size wr w5 := by rw [hw5]; exact (Below.refl _ _).alloc (Nat.le_refl _) _
      have pa_w := keep1 hbG.out pa_1
      have pa_5 := keep1 hb5 pa_w
      have e0 : w5.cell? ⟨wr.heap.size, 0, none⟩ = some (.string ds[k].name) := by rw [hw5]; simp [go_sem]
      have e1 : w5.cell? ⟨wr.heap.size, 1, none⟩ = some (.int .i64 ds[k].val) := by rw [hw5]; simp [go_sem]
      have HS5 := Lib.hid (((HSA.out.below hbG.out).call hbG.out.size).below hb5 |>.call hb5.size)
      have HO5 := Lib.hid (hown.out.alloc (.cells #[.string ds[k].name, .int .i64 ds[k].val] 53))
      rw [← hw5] at HO5
      have HB5 : Hid (Below G w1 w5) := Lib.hid (hbel.out.trans (hb5.mono hgs))
      have hs5 : G ≤ w5.heap.size := by have := hb5.size; omega
      have HW5 := Lib.hid hw5.symm
      clear hw5
      go_wp2_with fail
      rw [HW5.out]
      clear hb5 d1 d2
      go_region_held3 (fun w' => w'.cell? ⟨w.heap.size, 0, none⟩ = some (.slice (some ⟨b, o, none⟩) ds.length c) ∧ w'.cell? ⟨wr.heap.size, 0, none⟩ = some (.string ds[k].name))
        (first | with_reducible exact ⟨pa_5, e0⟩ | with_reducible exact ⟨y0, y1⟩ | with_reducible exact ⟨keepA y0, keepA y1⟩ | with_reducible exact ⟨u0, u1⟩ | go_keep | exact ⟨keepA y0, keepA y1⟩)
        (first
          | (go_at_call 83; refine (HRK.out ▸ implRankOf_yes ds ds[k].name _ _ _ _ (by first | exact HS5.out | exact HS5.out.drew | exact HS5.out.drewN _) HV.out k hlt HNF.out).mono ?_; rintro e6 w6 ⟨rfl, hb6⟩; replace hb6 : Below w5.heap.size w5 w6 := (by first | exact hb6 | exact undrew hb6); have y0 := keep1 hb6 pa_5; have y1 := keep1 hb6 e0; have ho6 := own_below HO5.out hb6)
          | (go_at_call 53; have hcc := flag1_v r hr12 w6; refine hcc.mono ?_; rintro e7 w7 ⟨rfl, rfl⟩)
          | (refine step_app_D rfl _ _ rfl G _ _ _ rfl (ho6.alloc _) _ _ _ _ rfl (heap_alloc_new _ _) (by omega) (by have := hb6.size; simp; omega) ?_; intro v' w8 ho8 hg8; have hb8 : Below G w1 w8 := (((HB5.out.trans (hb6.mono hs5)).alloc (by have := hb6.size; omega) _).grown hg8 (by have := hb6.size; simp; omega) (fun q hq => (ho6.lt q hq).1)); have u0 := (hb8.cell (p := ⟨w.heap.size, 0, none⟩) (by show w.heap.size < G; have h1 : w.heap.size < w1.heap.size := World.block_lt_of_cell? _ _ pa_1; have := HG.out; omega)).trans pa_1; have u1 := hg8.cell (keepA y1) (fun e => by have := (hown.out.lt _ e.symm).2; simp only at this; omega)))
      all_goals
        go_wp2
        go_roundw
        case rel => exact ⟨k + 1, by omega, by go_num, Lib.hid (by rw [HFT.out]; exact ho8), Lib.hid hb8⟩
        case measure => simp [intOf]; omega
    · obtain rfl : k = ds.length := by omega
      obtain ⟨A9, c9, hv9⟩ := own_form hown.out
      subst hv9
      have HO9 : Hid (wr.ownsRow G 53 2 (.slice A9 ds.length c9) (rkL bitR ds).length (flat (rkL bitR ds))) := Lib.hid (by have h := hown.out; rw [List.take_of_length_le (by rw [rkL_len]; exact Nat.le_refl _)] at h; rw [rkL_len]; exact h)
      go_wp2
      go_ret
      refine ⟨A9, c9, by rw [HM.out, rkL_len]; rfl, ?_, HB_1.out.trans (hbG.out.mono HB_1.out.size)⟩
      rw [HM.out]
      have h := own_base HO9.out hsG
      rw [rkL_len] at h ⊢
      exact h

set_option maxHeartbeats 4000000 in
theorem implRenum_any (ds : List D) (A : Option Addr) (n c : Nat) (w : World) (ha : SD w w.heap.size A n c ds) :
    Calls Tryd.prog 27 #[.agg #[.slice A n c]] w (EnumE (mRenum ds) w) := by
  have HRa := Lib.hid ha
  have HOA := Lib.hid ha.ok
  have HLA := Lib.hid ha.len
  clear ha
  obtain ⟨w0, hw⟩ : ∃ W : World, W = ((w.alloc (.cells #[.slice A n c] 28)).alloc (.cells #[.slice none 0 0] 28)) := ⟨_, rfl⟩
  have hb : Below w.heap.size w w0 := by rw [hw]; exact (((Below.refl _ _).alloc (by first | exact Nat.le_refl _ | (simp; done) | (simp; omega)) _).alloc (by first | exact Nat.le_refl _ | (simp; done) | (simp; omega)) _)
  have hs0 : w.heap.size + 2 ≤ w0.heap.size := by rw [hw]; simp
  have pa_0 : w0.cell? ⟨w.heap.size, 0, none⟩ = some (.slice A n c) := by rw [hw]; simp [go_sem]
  have za_0 : w0.cell? ⟨w.heap.size + 1, 0, none⟩ = some (.slice none 0 0) := by rw [hw]; simp [go_sem]
  have HB_0 := Lib.hid hb
  have HW0 : Hid (((w.alloc (.cells #[.slice A n c] 28)).alloc (.cells #[.slice none 0 0] 28)) = w0) := Lib.hid hw.symm
  clear hb hw
  have HF0 : Hid (w0.frozen? ⟨w.heap.size + 1, 0, none⟩ = false ∧ w0.frozen? ⟨w.heap.size + 1, 1, none⟩ = false) := Lib.hid (by rw [← HW0.out]; simp [go_sem])
  go_enter Tryd.func27, Tryd.ntmps27
  go_wp2_with fail
  rw [HW0.out]
  refine (byRanks_R ds _ _ _ _ ((HRa.out.below HB_0.out).call HB_0.out.size)).mono ?_
  rintro e1 w1 ⟨A1, c1, rfl, ho, hb⟩
  have hs1 : w0.heap.size ≤ w1.heap.size := hb.size
  have pa_1 := keep1 hb pa_0
  have za_1 := keep1 hb za_0
  have HB_1 : Hid (Below w.heap.size w w1) := Lib.hid (HB_0.out.trans (hb.mono HB_0.out.size))
  have zf := (hb.frozen (p := ⟨w.heap.size + 1, 0, none⟩) hs0).trans HF0.out.1
  have zg := (hb.frozen (p := ⟨w.heap.size + 1, 1, none⟩) hs0).trans HF0.out.2
  have HO := Lib.hid ho
  skip
  clear ho hb pa_0 za_0 HB_0
  go_wp2
  refine bodyPost_ret (v := .agg #[.slice A1 (byR idR ds).length c1]) (by simp [results, Tryd.results27, go_sem, za_1]) rfl ?_
  exact ⟨A1, c1, rfl, own_base (own_setCell HO.out (fun e => by have := (HO.out.lt _ e).1; simp at this; omega) _) (by omega), HB_1.out.setCell (by simp) _⟩

set_option maxHeartbeats 4000000 in
theorem implFlagOf_any (ds : List D) (A : Option Addr) (n c : Nat) (w : World) (ha : SD w w.heap.size A n c ds) :
    Calls Tryd.prog 24 #[.agg #[.slice A n c]] w (FlagE (mBits ds) 0 w) := by
  have HRa := Lib.hid ha
  have HOA := Lib.hid ha.ok
  have HLA := Lib.hid ha.len
  clear ha
  obtain ⟨w0, hw⟩ : ∃ W : World, W = ((w.alloc (.cells #[.slice A n c] 28)).alloc (.cells #[.slice none 0 0, .int .i64 0] 31)) := ⟨_, rfl⟩
  have hb : Below w.heap.size w w0 := by rw [hw]; exact (((Below.refl _ _).alloc (by first | exact Nat.le_refl _ | (simp; done) | (simp; omega)) _).alloc (by first | exact Nat.le_refl _ | (simp; done) | (simp; omega)) _)
  have hs0 : w.heap.size + 2 ≤ w0.heap.size := by rw [hw]; simp
  have pa_0 : w0.cell? ⟨w.heap.size, 0, none⟩ = some (.slice A n c) := by rw [hw]; simp [go_sem]
  have za_0 : w0.cell? ⟨w.heap.size + 1, 0, none⟩ = some (.slice none 0 0) := by rw [hw]; simp [go_sem]
  have zb_0 : w0.cell? ⟨w.heap.size + 1, 1, none⟩ = some (.int .i64 0) := by rw [hw]; simp [go_sem]
  have HB_0 := Lib.hid hb
  have HW0 : Hid (((w.alloc (.cells #[.slice A n c] 28)).alloc (.cells #[.slice none 0 0, .int .i64 0] 31)) = w0) := Lib.hid hw.symm
  clear hb hw
  have HF0 : Hid (w0.frozen? ⟨w.heap.size + 1, 0, none⟩ = false ∧ w0.frozen? ⟨w.heap.size + 1, 1, none⟩ = false) := Lib.hid (by rw [← HW0.out]; simp [go_sem])
  go_enter Tryd.func24, Tryd.ntmps24
  go_wp2_with fail
  rw [HW0.out]
  refine (byRanks_F ds _ _ _ _ ((HRa.out.below HB_0.out).call HB_0.out.size)).mono ?_
  rintro e1 w1 ⟨A1, c1, rfl, ho, hb⟩
  have hs1 : w0.heap.size ≤ w1.heap.size := hb.size
  have pa_1 := keep1 hb pa_0
  have za_1 := keep1 hb za_0
  have zb_1 := keep1 hb zb_0
  have HB_1 : Hid (Below w.heap.size w w1) := Lib.hid (HB_0.out.trans (hb.mono HB_0.out.size))
  have zf := (hb.frozen (p := ⟨w.heap.size + 1, 0, none⟩) hs0).trans HF0.out.1
  have zg := (hb.frozen (p := ⟨w.heap.size + 1, 1, none⟩) hs0).trans HF0.out.2
  have HO := Lib.hid ho
  skip
  clear ho hb pa_0 za_0 zb_0 HB_0
  go_wp2
  refine bodyPost_ret (v := .agg #[.slice A1 (byR bitR ds).length c1, .int .i64 0]) (by simp [results, Tryd.results24, go_sem, za_1, zb_1]) rfl ?_
  exact ⟨A1, c1, rfl, own_base (own_setCell (own_setCell HO.out (fun e => by have := (HO.out.lt _ e).1; simp at this; omega) _) (fun e => by have := (HO.out.lt _ e).1; simp at this; omega) _) (by omega), (HB_1.out.setCell (by simp) _).setCell (by simp) _⟩

end Go.Proofs.YteaiaglangmhbaaDoor
