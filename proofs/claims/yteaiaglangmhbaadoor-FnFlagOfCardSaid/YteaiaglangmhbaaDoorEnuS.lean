import Derived.RangeFuncBox
import Derived.RangeFuncNested
import Derived.Test.YteaiaglangmhbaaDoorEnuP
import Derived.Test.YteaiaglangmhbaaDoorBaseC
import Derived.Test.YteaiaglangmhbaaDoorBaseB
import Derived.Test.YteaiaglangmhbaaDoorCel
import Derived.Test.YteaiaglangmhbaaDoorBaseE

namespace Go.Proofs.YteaiaglangmhbaaDoor
open Go.RowKit
set_option linter.unusedVariables false
set_option linter.unusedSimpArgs false
set_option maxRecDepth 100000

theorem half_pow (i j m : Nat) (h : m = 2 ^ (i - j)) (hj : j < i) : m % 2 = 0 ∧ m / 2 = 2 ^ (i - (j + 1)) := by
  rw [show i - j = (i - (j + 1)) + 1 by omega, Nat.pow_succ] at h
  omega
set_option maxHeartbeats 4000000 in
theorem bitIndex_v (i : Nat) (w : World) (hi : i < 12) {x : Nat} (hx : x = 2 ^ i) :
    Calls Tryd.prog 32 #[.int .i64 (x : Int)] w fun e w' => e = .returned (.int .i64 i) ∧ w = w' := by
  have hx4 : x ≤ 4096 := by
    have hle : 2 ^ i ≤ 2 ^ 12 := Nat.pow_le_pow_right (by decide) (by omega)
    rw [hx]; exact hle
  have HX := Lib.hid hx
  clear hx
  go_enter Tryd.func32, Tryd.ntmps32
  go_wp2
  go_loop [0, 3] (fun a s => ∃ (m j : Nat), m ≤ 4096 ∧ j ≤ 12 ∧ a = .int .i64 m ∧ s = .int .i64 j ∧ Hid (m = 2 ^ (i - j) ∧ j ≤ i)) (fun a _ => (intOf a).toNat)
  case atStart => exact ⟨x, 0, hx4, by omega, rfl, rfl, Lib.hid ⟨HX.out, Nat.zero_le _⟩⟩
  case round =>
    obtain ⟨m, j, hm, hj12, rfl, rfl, hmj⟩ := hrel
    have hpos : 0 < m := by rw [hmj.out.1]; exact Nat.two_pow_pos _
    by_cases hj : j < i
    · have HH := Lib.hid (half_pow i j m hmj.out.1 hj)
      have h2 := HH.out.1
      have h3 : m / 2 < m := by omega
      have hji : j + 1 ≤ 12 := by omega
      have HJ := Lib.hid hj
      clear hj
      go_wp2
      go_round
      case rel => exact ⟨m / 2, j + 1, by omega, hji, by go_num, by go_num, Lib.hid ⟨HH.out.2, by have := HJ.out; omega⟩⟩
      case measure => simp [intOf]; omega
    · obtain rfl : j = i := by have := hmj.out.2; omega
      obtain rfl : m = 1 := by rw [hmj.out.1, Nat.sub_self]
      clear hj hmj hpos
      go_wp2
      go_ret
      exact ⟨rfl, rfl⟩
set_option maxHeartbeats 16000000 in
theorem specEnum_any (ds : List D) (b : Int) (A : Option Addr) (m c : Nat) (w : World) (hr : SD w w.heap.size A m c ds) (hn : m ≤ 1048576) :
    Calls Tryd.prog 7 #[.agg #[.slice A m c, .int .i64 b]] w (EnumE (mEnum ds b) w) := by
  obtain rfl := hr.len
  have HR := Lib.hid hr
  obtain ⟨v, hv⟩ : ∃ v, vFlag ds b = v := ⟨_, rfl⟩
  have HV := Lib.hid hv
  obtain ⟨w1, hw⟩ : ∃ W : World, W = (w.alloc (.cells #[.slice A ds.length c, .int .i64 b] 31)).alloc (.cells #[.slice none 0 0] 28) := ⟨_, rfl⟩
  have hb : Below w.heap.size w w1 := by rw [hw]; exact ((Below.refl _ _).alloc (Nat.le_refl _) _).alloc (by simp) _
  have hz1 : w.heap.size + 2 ≤ w1.heap.size := by rw [hw]; simp
  have c0_1 : w1.cell? ⟨w.heap.size, 0, none⟩ = some (.slice A ds.length c) := by rw [hw]; simp [go_sem]
  have c1_1 : w1.cell? ⟨w.heap.size, 1, none⟩ = some (.int .i64 b) := by rw [hw]; simp [go_sem]
  have z0_1 : w1.cell? ⟨w.heap.size + 1, 0, none⟩ = some (.slice none 0 0) := by rw [hw]; simp [go_sem]
  have zf_1 : w1.frozen? ⟨w.heap.size + 1, 0, none⟩ = false := by rw [hw]; simp [go_sem]
  have HB1 := Lib.hid hb
  have lf0 : ((w.alloc (.cells #[.slice A ds.length c, .int .i64 b] 31)).alloc (.cells #[.slice none 0 0] 28)).cell? ⟨w.heap.size, 0, none⟩ = some (.slice A ds.length c) := by rw [← hw]; exact c0_1
  have lf1 : ((w.alloc (.cells #[.slice A ds.length c, .int .i64 b] 31)).alloc (.cells #[.slice none 0 0] 28)).cell? ⟨w.heap.size, 1, none⟩ = some (.int .i64 b) := by rw [← hw]; exact c1_1
  have HW := Lib.hid hw.symm
  clear hr hw hb hv
  go_enter Tryd.func7, Tryd.ntmps7
  go_wp2_with fail
  rw [HW.out]
  clear HW lf0 lf1
  refine (specVF_v ds b _ _ _ _ ((HR.out.below HB1.out).call HB1.out.size) HV.out).mono ?_
  rintro e w2 ⟨rfl, hb⟩
  have HB2 : Hid (Below w.heap.size w w2) := Lib.hid (HB1.out.trans (hb.mono HB1.out.size))
  have c0_2 := keep1 hb c0_1
  have z0_2 := keep1 hb z0_1
  have zf_2 : w2.frozen? ⟨w.heap.size + 1, 0, none⟩ = false := (hb.frozen (p := ⟨w.heap.size + 1, 0, none⟩) hz1).trans zf_1
  have hz2 : w.heap.size + 2 ≤ w2.heap.size := Nat.le_trans hz1 hb.size
  clear hb c0_1 c1_1 z0_1 zf_1 HB1 hz1
  cases v
  · have HM : Hid (mEnum ds b = []) := Lib.hid (by unfold mEnum; rw [HV.out]; rfl)
    go_wp2
    refine bodyPost_ret (v := .agg #[.slice none 0 0]) (by simp [results, Tryd.results7, go_sem, z0_2]) rfl ?_
    rw [HM.out]
    exact ⟨none, 0, rfl, World.ownsRow_nil _ _ _ _, HB2.out.setCell (by simp) _⟩
  have HM : Hid (mEnum ds b = mEnu ds) := Lib.hid (by unfold mEnum; rw [HV.out, if_pos rfl])
  have HIN : Hid (∀ d ∈ ds, inR d) := Lib.hid (vFlag_in HV.out)
  have HO2 : Hid ((w2.alloc (.cells #[] 53)).ownsRow (w.heap.size + 2) 53 2 (.slice (some ⟨w2.heap.size, 0, none⟩) 0 0) 0 (flat [])) := Lib.hid (World.ownsRow_made w2 #[] 0 hz2 (by unfold maxLen; omega) rfl)
  have hbA : Below w2.heap.size w2 (w2.alloc (.cells #[] 53)) := (Below.refl _ _).alloc (Nat.le_refl _) _
  have c0_3 := Lib.hid (keep1 hbA c0_2)
  have z0_3 := Lib.hid (keep1 hbA z0_2)
  have zf_3 : Hid ((w2.alloc (.cells #[] 53)).frozen? ⟨w.heap.size + 1, 0, none⟩ = false) := Lib.hid ((hbA.frozen (p := ⟨w.heap.size + 1, 0, none⟩) hz2).trans zf_2)
  have HB3 : Hid (Below w.heap.size w (w2.alloc (.cells #[] 53))) := Lib.hid (HB2.out.trans (hbA.mono HB2.out.size))
  have hz3 : Hid (w.heap.size + 2 ≤ (w2.alloc (.cells #[] 53)).heap.size) := Lib.hid (by simp; omega)
  clear hbA c0_2 z0_2 zf_2 HB2 hz2 HV
  go_wp2
  go_loopw [3, 4] (fun v i wr => ∃ k : Nat, k ≤ ds.length ∧ i = .int .i64 k ∧ Hid (wr.ownsRow (w.heap.size + 2) 53 2 v (enuTo ds k).length (flat (enuTo ds k))) ∧ Hid (wr.cell? ⟨w.heap.size, 0, none⟩ = some (.slice A ds.length c)) ∧ Hid (wr.cell? ⟨w.heap.size + 1, 0, none⟩ = some (.slice none 0 0)) ∧ Hid (wr.frozen? ⟨w.heap.size + 1, 0, none⟩ = false) ∧ Hid (Below w.heap.size w wr) ∧ Hid (w.heap.size + 2 ≤ wr.heap.size)) (fun _ i _ => ds.length - (intOf i).toNat)
  case atStart => exact ⟨0, Nat.zero_le _, rfl, HO2, c0_3, z0_3, zf_3, HB3, hz3⟩
  case round =>
    clear HO2 c0_3 z0_3 zf_3 HB3 hz3
    obtain ⟨k, hk, rfl, hown, c0, z0, zf, hbel, hzr⟩ := hrel
    have hzr := hzr.out
    have cl0 := c0.out
    by_cases hlt : k < ds.length
    · obtain ⟨b0, o, hA, hb0, x1, x2⟩ := (HR.out.below hbel.out).at_ hlt
      subst hA
      have hi1 : (k : Int) < (ds.length : Int) := by omega
      have hi0 : (0 : Int) ≤ (k : Int) := by omega
      have HI := Lib.hid (HIN.out _ (List.getElem_mem hlt))
      obtain ⟨x, hx⟩ : ∃ x : Nat, ds[k].val = x := ⟨ds[k].val.toNat, (Int.toNat_of_nonneg HI.out.1).symm⟩
      have hx4 : x < 4096 := by have := HI.out.2; omega
      have HT := Lib.hid (enuTo_succ ds k hlt)
      have HL := Lib.hid (enuTo_len ds k)
      have HC : Hid (oneB ds[k] = decide (popc x = 1)) := Lib.hid (by unfold oneB; rw [hx, Int.toNat_natCast])
      have HX := Lib.hid hx
      rw [hx] at x2
      clear hx
      obtain ⟨p, hp⟩ : ∃ p, popc x = p := ⟨_, rfl⟩
      have HP := Lib.hid hp
      by_cases hp1 : p = 1
      · subst hp1
        obtain ⟨i, hi12, hx2i⟩ := popc_one 12 x (by omega) hp
        have HTT : Hid (enuTo ds (k + 1) = enuTo ds k ++ [⟨ds[k].name, (i : Int)⟩]) := Lib.hid (by rw [HT.out, HC.out, decide_eq_true hp, if_pos rfl]; unfold idxD; rw [HX.out, Int.toNat_natCast, hx2i, log_pow])
        have HX2 := Lib.hid hx2i
        clear hp hx2i
        go_wp2_with (go_at_call 31; refine (bitCount_any x _ (by omega) HP.out).mono ?_; rintro e w' ⟨rfl, rfl⟩)
        refine wp_region_held_drew (S := fun w' => w'.cell? ⟨w.heap.size, 0, none⟩ = some (.slice (some ⟨b0, o, none⟩) ds.length c) ∧ w'.cell? ⟨b0, o + k * 2, none⟩ = some (.string ds[k].name) ∧ w'.cell? ⟨b0, o + k * 2 + 1, none⟩ = some (.int .i64 x)) (by kernel_rfl) ⟨c0.out, x1, x2⟩ (fun hHeld => ?_)
        obtain ⟨V, hV⟩ : ∃ V : World, V = wr.drew := ⟨_, rfl⟩
        have hbV : Below wr.heap.size wr V := by rw [hV]; exact (Below.refl _ _).drew
        have hrow : V.ownsRow (w.heap.size + 2) 53 2 u3 (enuTo ds k).length (flat (enuTo ds k)) := by rw [hV]; exact hown.out
        have hz : w.heap.size + 2 ≤ V.heap.size := by rw [hV]; exact hzr
        rw [← hV] at hHeld ⊢
        clear hV
        refine wpAnyH_take (i := 0) (v := ?_) rfl (by kernel_rfl) (by kernel_rfl) (by kernel_rfl) (fun _ _ _ h => h) (Or.inl ⟨by kernel_rfl, ?_⟩) hHeld ?_
        rotate_left
        · intro wz hSw
          try dsimp only at hSw
          first
          | (go_simp; done)
          | (go_simp; with_reducible rfl)
        try simp only [Act.put, List.setIfInBounds_toArray, List.set_cons_zero, List.set_cons_succ]
        refine wpAnyH_take (i := 1) (v := ?_) rfl (by kernel_rfl) (by kernel_rfl) (by kernel_rfl) (fun _ _ _ h => h) (Or.inl ⟨by kernel_rfl, ?_⟩) hHeld ?_
        rotate_left
        · intro wz hSw
          try dsimp only at hSw
          first
          | (go_simp; done)
          | (go_simp; with_reducible rfl)
        try simp only [Act.put, List.setIfInBounds_toArray, List.set_cons_zero, List.set_cons_succ]
        refine wpAnyH_take (i := 2) (v := ?_) rfl (by kernel_rfl) (by kernel_rfl) (by kernel_rfl) (fun _ _ _ h => h) (Or.inl ⟨by kernel_rfl, ?_⟩) hHeld ?_
        rotate_left
        · intro wz hSw
          try dsimp only at hSw
          first
          | (go_simp; done)
          | (go_simp; with_reducible rfl)
        try simp only [Act.put, List.setIfInBounds_toArray, List.set_cons_zero, List.set_cons_succ]
        refine wpAnyH_take (i := 3) (v := ?_) rfl (by kernel_rfl) (by kernel_rfl) (by kernel_rfl) (fun _ _ _ h => h) (Or.inl ⟨by kernel_rfl, ?_⟩) hHeld ?_
        rotate_left
        · intro wz hSw
          try dsimp only at hSw
          first
          | (go_simp; done)
          | (go_simp; with_reducible rfl)
        try simp only [Act.put, List.setIfInBounds_toArray, List.set_cons_zero, List.set_cons_succ]
        refine wpAnyH_take (i := 4) (v := ?_) rfl (by kernel_rfl) (by kernel_rfl) (by kernel_rfl) (fun _ _ _ h => h) (Or.inl ⟨by kernel_rfl, ?_⟩) hHeld ?_
        rotate_left
        · intro wz hSw
          try dsimp only at hSw
          first
          | (go_simp; done)
          | (go_simp; with_reducible rfl)
        try simp only [Act.put, List.setIfInBounds_toArray, List.set_cons_zero, List.set_cons_succ]
        refine wpAnyH_take (i := 5) (v := ?_) rfl (by kernel_rfl) (by kernel_rfl) (by kernel_rfl) (fun _ _ _ h => h) (Or.inl ⟨by kernel_rfl, ?_⟩) hHeld ?_
        rotate_left
        · intro wz hSw
          try dsimp only at hSw
          first
          | (go_simp; done)
          | (go_simp; with_reducible rfl)
        try simp only [Act.put, List.setIfInBounds_toArray, List.set_cons_zero, List.set_cons_succ]
        refine wpAnyH_take (i := 6) (v := ?_) rfl (by kernel_rfl) (by kernel_rfl) (by kernel_rfl) (fun _ _ _ h => h) (Or.inl ⟨by kernel_rfl, ?_⟩) hHeld ?_
        rotate_left
        · intro wz hSw
          try dsimp only at hSw
          first
          | (go_simp; done)
          | (go_simp; with_reducible rfl)
        try simp only [Act.put, List.setIfInBounds_toArray, List.set_cons_zero, List.set_cons_succ]
        refine wpAnyH_take (i := 7) (v := ?_) rfl (by kernel_rfl) (by kernel_rfl) (by kernel_rfl) (fun _ _ _ h => h) (Or.inl ⟨by kernel_rfl, ?_⟩) hHeld ?_
        rotate_left
        · intro wz hSw
          try dsimp only at hSw
          first
          | (go_simp; done)
          | (go_simp; with_reducible rfl)
        try simp only [Act.put, List.setIfInBounds_toArray, List.set_cons_zero, List.set_cons_succ]
        refine wpAnyH_take (i := 8) (v := ?_) rfl (by kernel_rfl) (by kernel_rfl) (by kernel_rfl) (fun _ _ _ h => h) (Or.inl ⟨by kernel_rfl, ?_⟩) hHeld ?_
        rotate_left
        · intro wz hSw
          try dsimp only at hSw
          first
          | (go_simp; done)
          | (go_simp; with_reducible rfl)
        try simp only [Act.put, List.setIfInBounds_toArray, List.set_cons_zero, List.set_cons_succ]
        refine wpAnyH_take (i := 9) (v := ?_) rfl (by kernel_rfl) (by kernel_rfl) (by kernel_rfl) (fun _ _ _ h => h) (Or.inl ⟨by kernel_rfl, ?_⟩) hHeld ?_
        rotate_left
        · intro wz hSw
          try dsimp only at hSw
          first
          | (go_simp; done)
          | (go_simp; with_reducible rfl)
        try simp only [Act.put, List.setIfInBounds_toArray, List.set_cons_zero, List.set_cons_succ]
        refine wpAnyH_take (i := 10) (v := ?_) rfl (by kernel_rfl) (by kernel_rfl) (by kernel_rfl) (fun _ _ _ h => h) (Or.inl ⟨by kernel_rfl, ?_⟩) hHeld ?_
        rotate_left
        · intro wz hSw
          try dsimp only at hSw
          first
          | (go_simp; done)
          | (go_simp; with_reducible rfl)
        try simp only [Act.put, List.setIfInBounds_toArray, List.set_cons_zero, List.set_cons_succ]
        refine wpAnyH_take (i := 11) (v := ?_) rfl (by kernel_rfl) (by kernel_rfl) (by kernel_rfl) (fun _ _ _ h => h) (Or.inl ⟨by kernel_rfl, ?_⟩) hHeld ?_
        rotate_left
        · intro wz hSw
          try dsimp only at hSw
          first
          | (go_simp; done)
          | (go_simp; with_reducible rfl)
        try simp only [Act.put, List.setIfInBounds_toArray, List.set_cons_zero, List.set_cons_succ]
        refine wpAnyH_take (i := 12) (v := ?_) rfl (by kernel_rfl) (by kernel_rfl) (by kernel_rfl) (fun _ _ _ h => h) (Or.inl ⟨by kernel_rfl, ?_⟩) hHeld ?_
        rotate_left
        · intro wz hSw
          try dsimp only at hSw
          first
          | (go_simp; done)
          | (go_simp; with_reducible rfl)
        try simp only [Act.put, List.setIfInBounds_toArray, List.set_cons_zero, List.set_cons_succ]
        refine wpAnyH_ready (rs := [13]) (by kernel_rfl) (by simp) ?_
        refine AllReadyH.cons rfl (fun K hK => ?_) AllReadyH.nil
        go_simp
        refine (bitIndex_v i _ hi12 HX2.out).mono ?_
        rintro e V1 ⟨rfl, hw⟩
        rw [← hw]
        clear hw V1
        go_simp
        refine hK.out _ _ hHeld (fun hHeld => ?_)
        clear hK K
        try simp only [Act.put, List.setIfInBounds_toArray, List.set_cons_zero, List.set_cons_succ]
        refine wpAnyH_take (i := 14) (v := ?_) rfl (by kernel_rfl) (by kernel_rfl) (by kernel_rfl) (fun _ _ _ h => h) (Or.inl ⟨by kernel_rfl, ?_⟩) hHeld ?_
        rotate_left
        · intro wz hSw
          try dsimp only at hSw
          first
          | (go_simp; done)
          | (go_simp; with_reducible rfl)
        try simp only [Act.put, List.setIfInBounds_toArray, List.set_cons_zero, List.set_cons_succ]
        refine wpAnyH_ready (rs := [15]) (by kernel_rfl) (by simp) ?_
        refine AllReadyH.cons rfl (fun K hK => ?_) AllReadyH.nil
        go_simp
        have hbA := (Below.refl V.heap.size V).alloc (Nat.le_refl _) (.cells #[.string ds[k].name, .int .i64 i] 53)
        refine hK.out _ _ ⟨keep1 hbA hHeld.1, keep1 hbA hHeld.2.1, keep1 hbA hHeld.2.2⟩ (fun hHeld => ?_)
        clear hK K
        try simp only [Act.put, List.setIfInBounds_toArray, List.set_cons_zero, List.set_cons_succ]
        refine wpAnyH_ready (rs := [16]) (by kernel_rfl) (by simp) ?_
        refine AllReadyH.cons rfl (fun K hK => ?_) AllReadyH.nil
        refine step_app_D rfl _ _ rfl (w.heap.size + 2) u3 _ _ rfl (hrow.alloc _) _ _ _ _ rfl (World.alloc_heap_new _ _) (by have := HL.out; omega) (by simp; omega) ?_
        intro v' w5 ho hg
        obtain ⟨A5, c5, rfl⟩ := own_form ho
        have hb5 : Below (w.heap.size + 2) V w5 := ((Below.refl _ V).alloc hz (.cells #[.string ds[k].name, .int .i64 i] 53)).grown hg (by simp; omega) (fun q hq => (hrow.lt q hq).1)
        have hb6 : Below (w.heap.size + 2) wr w5 := (hbV.mono hzr).trans hb5
        refine hK.out _ _ ⟨(hb6.cell (p := ⟨w.heap.size, 0, none⟩) (show w.heap.size < w.heap.size + 2 by omega)).trans c0.out, (hb6.cell (p := ⟨b0, o + k * 2, none⟩) (show b0 < w.heap.size + 2 by omega)).trans x1, (hb6.cell (p := ⟨b0, o + k * 2 + 1, none⟩) (show b0 < w.heap.size + 2 by omega)).trans x2⟩ (fun hHeld => ?_)
        clear hK K
        try simp only [Act.put, List.setIfInBounds_toArray, List.set_cons_zero, List.set_cons_succ]
        refine wpAnyH_take (i := 17) (v := ?_) rfl (by kernel_rfl) (by kernel_rfl) (by kernel_rfl) (fun _ _ _ h => h) (Or.inl ⟨by kernel_rfl, ?_⟩) hHeld ?_
        rotate_left
        · intro wz hSw
          try dsimp only at hSw
          first
          | (go_simp; done)
          | (go_simp; with_reducible rfl)
        try simp only [Act.put, List.setIfInBounds_toArray, List.set_cons_zero, List.set_cons_succ]
        refine wpAnyH_done (by kernel_rfl) ?_ _
        try go_simp
        have HO5 : Hid (w5.ownsRow (w.heap.size + 2) 53 2 (.slice A5 ((enuTo ds k).length + 1) c5) (enuTo ds (k + 1)).length (flat (enuTo ds (k + 1)))) := Lib.hid (by rw [HTT.out, List.length_append]; simpa [flat, encD] using ho)
        have C5 := Lib.hid ((hb6.cell (p := ⟨w.heap.size, 0, none⟩) (show w.heap.size < w.heap.size + 2 by omega)).trans c0.out)
        have Z5 := Lib.hid ((hb6.cell (p := ⟨w.heap.size + 1, 0, none⟩) (show w.heap.size + 1 < w.heap.size + 2 by omega)).trans z0.out)
        have F5 : Hid (w5.frozen? ⟨w.heap.size + 1, 0, none⟩ = false) := Lib.hid ((hb6.frozen (p := ⟨w.heap.size + 1, 0, none⟩) (show w.heap.size + 1 < w.heap.size + 2 by omega)).trans zf.out)
        have B5 : Hid (Below w.heap.size w w5) := Lib.hid (hbel.out.trans (hb6.mono (by omega)))
        have Z6 : Hid (w.heap.size + 2 ≤ w5.heap.size) := Lib.hid (Nat.le_trans hzr hb6.size)
        clear ho hg hb5 hb6 hbV hrow hz
        go_wp2
        go_roundw
        case rel => exact ⟨k + 1, by omega, by go_num, HO5, C5, Z5, F5, B5, Z6⟩
        case measure => simp [intOf]; omega
      · have hp2 : ((p : Int) == 1) = false := by rw [beq_eq_false_iff_ne]; omega
        have HTT : Hid (enuTo ds (k + 1) = enuTo ds k) := Lib.hid (by rw [HT.out, HC.out, hp, decide_eq_false hp1]; simp)
        clear hp hp1
        go_wp2_with (go_at_call 31; refine (bitCount_any x _ (by omega) HP.out).mono ?_; rintro e w' ⟨rfl, rfl⟩)
        go_roundw
        case rel => exact ⟨k + 1, by omega, by go_num, Lib.hid (by rw [HTT.out]; exact hown.out), c0, z0, zf, hbel, Lib.hid hzr⟩
        case measure => simp [intOf]; omega
    · obtain rfl : k = ds.length := by omega
      have hi9 : ¬ (ds.length : Int) < (ds.length : Int) := by omega
      obtain ⟨A', c', hv⟩ := own_form hown.out
      subst hv
      have z1 := z0.out
      have z2 := zf.out
      have ho := Lib.hid (own_setCell hown.out (fun e => by have h9 : w.heap.size + 2 ≤ w.heap.size + 1 := (hown.out.lt _ e).1; omega) (.slice A' (enuTo ds ds.length).length c') (p := ⟨w.heap.size + 1, 0, none⟩))
      go_wp2
      refine bodyPost_ret (v := .agg #[.slice A' (enuTo ds ds.length).length c']) (by simp [results, Tryd.results7, go_sem, z1]) rfl ?_
      rw [HM.out, ← enuTo_all]
      exact ⟨A', c', rfl, own_base ho.out (by omega), hbel.out.setCell (by simp) _⟩
end Go.Proofs.YteaiaglangmhbaaDoor
