import Derived.Deep.DeepCutAuto
import Derived.Test.YtboehlffbibgmaaDoorGenX
import Derived.Test.YtboehlffbibgmaaDoorBaseG
namespace Go.Proofs.YtboehlffbibgmaaDoor
open Go.RowKit
set_option linter.unusedVariables false
set_option linter.unusedSimpArgs false
set_option maxRecDepth 100000

structure C1 (w : World) (g : Nat) (v0 : Value) : Prop where
  c0 : w.cell? ⟨g, 0, none⟩ = some v0
  f0 : w.frozen? ⟨g, 0, none⟩ = false
theorem C1.lt {w : World} {g : Nat} {v0 : Value} (h : C1 w g v0) : g < w.heap.size := World.block_lt_of_cell? _ _ h.c0
theorem C1.below {w w' : World} {g : Nat} {v0 : Value} (h : C1 w g v0) (hb : Below w.heap.size w w') : C1 w' g v0 := ⟨keep1 hb h.c0, (hb.frozen (p := ⟨g, 0, none⟩) h.lt).trans h.f0⟩
theorem C1.set0 {w : World} {g : Nat} {v0 : Value} (h : C1 w g v0) (u : Value) : C1 (w.setCell ⟨g, 0, none⟩ u) g u := ⟨World.cell?_setCell_same' _ _ _ (by rw [h.c0]; rfl), by rw [fro_set]; exact h.f0⟩
theorem C1.grown {w w' : World} {row : Option Nat} {g : Nat} {v0 : Value} (h : C1 w g v0) (hg : w.grownBy w' row) (hr : some g ≠ row) : C1 w' g v0 := ⟨hg.cell h.c0 hr, grown_frozen hg h.lt h.f0 hr⟩
theorem c1New (w : World) (v0 : Value) (t : TypeId) : C1 (w.alloc (.cells #[v0] t)) w.heap.size v0 := ⟨by simp [go_sem], by simp [go_sem]⟩
/-- A drawn enumeration and a number. -/
def DrawEN (w : World) (e : Ending) (w' : World) : Prop :=
  ∃ (A : Option Addr) (c : Nat) (ds : List D) (n : Int), e = .returned (.tuple #[.agg #[.slice A ds.length c], .int .i64 n]) ∧ ds.length ≤ 25 ∧ (∀ d ∈ ds, d.small) ∧ (-5000 ≤ n ∧ n ≤ 5000) ∧ SD w' w'.heap.size A ds.length c ds ∧ Below w.heap.size w w'
set_option maxHeartbeats 8000000 in
theorem drawShowEnum_any (A : Option Addr) (n c : Nat) (zs : List Int) (w : World) (h : SB w w.heap.size A n c zs) :
    Calls Tryd.prog 22 #[.slice A n c] w (DrawEN w) := by
  have HS := Lib.hid h
  clear h
  go_enter Tryd.func22, Tryd.ntmps22
  go_wp2_with fail
  refine (newReader_any A n c zs _ (HS.out.alloc0 _)).mono ?_
  rintro e w1 ⟨R, A1, cb, z1, rfl, hR, hr, hb⟩
  have hwR : w.heap.size ≠ R := by simp at hR; omega
  have X1 : Hid (C1 w1 w.heap.size (.slice none 0 0)) := Lib.hid ((c1New _ _ _).below hb)
  have HB : Hid (Below w.heap.size w w1) := Lib.hid (((Below.refl _ _).alloc (Nat.le_refl _) _).trans (hb.mono (by simp)))
  have HR1 := Lib.hid hr
  have hRl : w.heap.size + 1 ≤ R := by simpa using hR
  have hR1 := HR1.out.lt
  have hz1 := HB.out.size
  clear hr hb hR
  go_wp2_with fail
  refine (someEnum_any R _ A1 cb z1 0 _ HR1.out (by omega)).mono ?_
  rintro e w2 ⟨Aa, ca, ds, p2, rfl, hn, hsm, hown, hp2, hg, hr⟩
  have X2 := Lib.hid (X1.out.grown hg (by simpa using hwR))
  have HG2 : Hid (w1.grownBy w2 (some R)) := Lib.hid hg
  have hz2 : w1.heap.size ≤ w2.heap.size := hg.size
  have HO2 := Lib.hid hown
  have HSM := Lib.hid hsm
  have HR2 := Lib.hid hr
  clear hg hown hsm X1 HR1 hr
  obtain ⟨w3, hw⟩ : ∃ W : World, W = w2.alloc (.cells #[.slice Aa ds.length ca] 41) := ⟨_, rfl⟩
  have hb : Below w2.heap.size w2 w3 := by rw [hw]; exact (Below.refl _ _).alloc (Nat.le_refl _) _
  have D3 : Hid (C1 w3 w2.heap.size (.slice Aa ds.length ca)) := Lib.hid (by rw [hw]; exact c1New _ _ _)
  have hz3 : w2.heap.size + 1 ≤ w3.heap.size := by rw [hw]; simp
  have X3 := Lib.hid (X2.out.below hb)
  have HO3 := Lib.hid (own_below HO2.out hb)
  have HG3 : Hid (w1.grownBy w3 (some R)) := Lib.hid (HG2.out.trans (grown_of_below hb _))
  have HR3 := Lib.hid (HR2.out.below hb)
  have HW := Lib.hid hw.symm
  have hGR : w2.heap.size ≠ R := by omega
  have n1 : w2.heap.size ≠ w.heap.size := by omega
  have n2 : w.heap.size ≠ w2.heap.size := by omega
  have dl0 : (w2.alloc (.cells #[.slice Aa ds.length ca] 41)).cell? ⟨w2.heap.size, 0, none⟩ = some (.slice Aa ds.length ca) := by simp [go_sem]
  clear hb hw X2 HO2 HG2 HR2
  by_cases h0 : ds.length = 0
  · have h01 : ¬ (0 < (ds.length : Int)) := by omega
    clear h0
    go_upto_region 5 with fail
    rw [HW.out]
    clear HW dl0
    generalize hG : w2.heap.size = G at *
    clear hG
    refine wp_region_held_drew (S := (fun w' => w'.cell? ⟨G, 0, none⟩ = some (.slice Aa ds.length ca))) (by kernel_rfl) D3.out.c0 (fun hHeld => ?_)
    refine wpAnyH_take (i := 0) (v := ?_) rfl (by kernel_rfl) (by kernel_rfl) (by kernel_rfl) (fun _ _ _ h => h) (Or.inl ⟨by kernel_rfl, ?_⟩) hHeld ?_
    rotate_left
    · intro wz hSw
      try dsimp only at hSw
      first
      | (go_simp; done)
      | (go_simp; with_reducible rfl)
    try simp only [Act.put, List.setIfInBounds_toArray, List.set_cons_zero, List.set_cons_succ]
    refine wpAnyH_take (i := 1) (v := ?_) rfl (by kernel_rfl) (by kernel_rfl) (by kernel_rfl) (fun _ _ _ h => h) (Or.inl ⟨by kernel_rfl, ?_⟩) hHeld ?_
    rotate_left
    · intro wz hSw
      try dsimp only at hSw
      first
      | (go_simp; done)
      | (go_simp; with_reducible rfl)
    try simp only [Act.put, List.setIfInBounds_toArray, List.set_cons_zero, List.set_cons_succ]
    refine wpAnyH_ready (rs := [2]) (by kernel_rfl) (by simp) ?_
    refine AllReadyH.cons rfl (fun K hK => ?_) AllReadyH.nil
    go_simp
    have hbA : Below w3.heap.size w3 (w3.drew.alloc (.cells #[.int .i64 9, .int .i64 (-9), .int .i64 0, .int .i64 1000, .int .i64 (-1000), .int .i64 1001, .int .i64 (-1001)] 3)) := ((Below.refl _ _).drew).alloc (Nat.le_refl _) _
    refine hK.out _ _ (keep1 hbA D3.out.c0) (fun hHeld => ?_)
    clear hK K
    try simp only [Act.put, List.setIfInBounds_toArray, List.set_cons_zero, List.set_cons_succ]
    refine wpAnyH_ready (rs := [3]) (by kernel_rfl) (by simp) ?_
    refine AllReadyH.cons rfl (fun K hK => ?_) AllReadyH.nil
    go_simp
    refine (one_any (-5000) 5000 R _ A1 cb z1 (p2) w3.heap.size 7 7 _ (HR3.out.below hbA) (by omega) (by omega) (by omega) (by omega) (litI rfl rfl (by simp [allI]))).mono ?_
    rintro e w5 ⟨zv, rfl, v0, v1, hg0, hr⟩
    have hg : w3.grownBy w5 (some R) := (grown_of_below hbA (some R)).trans hg0
    have X5 := Lib.hid (X3.out.grown hg (by simpa using hwR))
    have D5 := Lib.hid (D3.out.grown hg (by simpa using hGR))
    have HO5 := Lib.hid (HO3.out.kept hg (own_neR HO3.out (by omega)))
    have HG5 : Hid (w1.grownBy w5 (some R)) := Lib.hid (HG3.out.trans hg)
    have HR5 := Lib.hid hr
    have hz5 : G + 1 ≤ w5.heap.size := Nat.le_trans hz3 (by first | exact hg.size | (have := hg.size; simp at this; omega))
    clear hg hg0 hr hbA
    go_simp
    refine hK.out _ _ D5.out.c0 (fun hHeld => ?_)
    clear hK K
    try simp only [Act.put, List.setIfInBounds_toArray, List.set_cons_zero, List.set_cons_succ]
    refine wpAnyH_ready (rs := [4]) (by kernel_rfl) (by simp) ?_
    refine AllReadyH.cons rfl (fun K hK => ?_) AllReadyH.nil
    obtain ⟨x0, e0⟩ := id X5.out
    go_simp
    refine hK.out _ _ ((World.cell?_setCell_other _ _ _ _ (by intro e; injection e with e1 e2; omega)).trans D5.out.c0) (fun hHeld => ?_)
    clear hK K
    try simp only [Act.put, List.setIfInBounds_toArray, List.set_cons_zero, List.set_cons_succ]
    refine wpAnyH_take (i := 5) (v := ?_) rfl (by kernel_rfl) (by kernel_rfl) (by kernel_rfl) (fun _ _ _ h => h) (Or.inl ⟨by kernel_rfl, ?_⟩) hHeld ?_
    rotate_left
    · intro wz hSw
      try dsimp only at hSw
      first
      | (go_simp; done)
      | (go_simp; with_reducible rfl)
    try simp only [Act.put, List.setIfInBounds_toArray, List.set_cons_zero, List.set_cons_succ]
    refine wpAnyH_done (by kernel_rfl) ?_ _
    try go_simp
    have hX := X5.out.set0 (.slice (Aa) ds.length ca)
    obtain ⟨y0, _⟩ := id hX
    go_wp2
    refine bodyPost_ret (v := .tuple #[.agg #[.slice (Aa) ds.length ca], .int .i64 zv]) (by simp [results, Tryd.results22, go_sem, y0]) rfl ⟨(Aa), ca, ds, zv, rfl, hn, HSM.out, (by omega), ?_, ?_⟩
    · exact sd_of_own (own_setCell HO5.out (fun e => by have := (HO5.out.lt _ e).1; simp only at *; omega) _) (fun d hd => small_ok (HSM.out d hd))
    · exact (HB.out.grown HG5.out HB.out.size (fun q hq => by cases hq; omega)).setCell (Nat.le_refl _) _
  · have h01 : (0 < (ds.length : Int)) := by omega
    go_wp2_with fail
    rw [HW.out]
    clear HW dl0
    generalize hG : w2.heap.size = G at *
    clear hG
    refine (pick_any 2 R _ A1 cb z1 p2 _ HR3.out (by omega) (by omega) (by omega)).mono ?_
    rintro e w4 ⟨r, rfl, r0, r1, hg, hr⟩
    have X4 := Lib.hid (X3.out.grown hg (by simpa using hwR))
    have D4 := Lib.hid (D3.out.grown hg (by simpa using hGR))
    have HO4 := Lib.hid (HO3.out.kept hg (own_neR HO3.out (by omega)))
    have HG4 : Hid (w1.grownBy w4 (some R)) := Lib.hid (HG3.out.trans hg)
    have HR4 := Lib.hid hr
    have hz4 : G + 1 ≤ w4.heap.size := Nat.le_trans hz3 (by first | exact hg.size | (have := hg.size; simp at this; omega))
    clear hg hr X3 D3 HO3 HG3 HR3 r1
    by_cases hr0 : r = 0
    · subst hr0
      go_upto_region 4 with fail
      refine wp_region_held_drew (S := (fun w' => w'.cell? ⟨G, 0, none⟩ = some (.slice Aa ds.length ca))) (by kernel_rfl) D4.out.c0 (fun hHeld => ?_)
      refine wpAnyH_take (i := 0) (v := ?_) rfl (by kernel_rfl) (by kernel_rfl) (by kernel_rfl) (fun _ _ _ h => h) (Or.inl ⟨by kernel_rfl, ?_⟩) hHeld ?_
      rotate_left
      · intro wz hSw
        try dsimp only at hSw
        first
        | (go_simp; done)
        | (go_simp; with_reducible rfl)
      try simp only [Act.put, List.setIfInBounds_toArray, List.set_cons_zero, List.set_cons_succ]
      refine wpAnyH_take (i := 1) (v := ?_) rfl (by kernel_rfl) (by kernel_rfl) (by kernel_rfl) (fun _ _ _ h => h) (Or.inl ⟨by kernel_rfl, ?_⟩) hHeld ?_
      rotate_left
      · intro wz hSw
        try dsimp only at hSw
        first
        | (go_simp; done)
        | (go_simp; with_reducible rfl)
      try simp only [Act.put, List.setIfInBounds_toArray, List.set_cons_zero, List.set_cons_succ]
      refine wpAnyH_take (i := 2) (v := ?_) rfl (by kernel_rfl) (by kernel_rfl) (by kernel_rfl) (fun _ _ _ h => h) (Or.inl ⟨by kernel_rfl, ?_⟩) hHeld ?_
      rotate_left
      · intro wz hSw
        try dsimp only at hSw
        first
        | (go_simp; done)
        | (go_simp; with_reducible rfl)
      try simp only [Act.put, List.setIfInBounds_toArray, List.set_cons_zero, List.set_cons_succ]
      refine wpAnyH_take (i := 3) (v := ?_) rfl (by kernel_rfl) (by kernel_rfl) (by kernel_rfl) (fun _ _ _ h => h) (Or.inl ⟨by kernel_rfl, ?_⟩) hHeld ?_
      rotate_left
      · intro wz hSw
        try dsimp only at hSw
        first
        | (go_simp; done)
        | (go_simp; with_reducible rfl)
      try simp only [Act.put, List.setIfInBounds_toArray, List.set_cons_zero, List.set_cons_succ]
      refine wpAnyH_take (i := 4) (v := ?_) rfl (by kernel_rfl) (by kernel_rfl) (by kernel_rfl) (fun _ _ _ h => h) (Or.inl ⟨by kernel_rfl, ?_⟩) hHeld ?_
      rotate_left
      · intro wz hSw
        try dsimp only at hSw
        first
        | (go_simp; done)
        | (go_simp; with_reducible rfl)
      try simp only [Act.put, List.setIfInBounds_toArray, List.set_cons_zero, List.set_cons_succ]
      refine wpAnyH_take (i := 5) (v := ?_) rfl (by kernel_rfl) (by kernel_rfl) (by kernel_rfl) (fun _ _ _ h => h) (Or.inl ⟨by kernel_rfl, ?_⟩) hHeld ?_
      rotate_left
      · intro wz hSw
        try dsimp only at hSw
        first
        | (go_simp; done)
        | (go_simp; with_reducible rfl)
      try simp only [Act.put, List.setIfInBounds_toArray, List.set_cons_zero, List.set_cons_succ]
      refine wpAnyH_take (i := 6) (v := ?_) rfl (by kernel_rfl) (by kernel_rfl) (by kernel_rfl) (fun _ _ _ h => h) (Or.inl ⟨by kernel_rfl, ?_⟩) hHeld ?_
      rotate_left
      · intro wz hSw
        try dsimp only at hSw
        first
        | (go_simp; done)
        | (go_simp; with_reducible rfl)
      try simp only [Act.put, List.setIfInBounds_toArray, List.set_cons_zero, List.set_cons_succ]
      refine wpAnyH_ready (rs := [7]) (by kernel_rfl) (by simp) ?_
      refine AllReadyH.cons rfl (fun K hK => ?_) AllReadyH.nil
      go_simp
      refine (pick_any ds.length R _ A1 cb z1 (p2 + 1) _ (HR4.out.drewN 1) (by omega) (by omega) (by omega)).mono ?_
      rintro e w5 ⟨kk, rfl, k0, k1, hg, hr⟩
      replace hg : w4.grownBy w5 (some R) := ⟨hg.os, hg.tape, hg.output, hg.size, hg.block⟩
      have X5 := Lib.hid (X4.out.grown hg (by simpa using hwR))
      have D5 := Lib.hid (D4.out.grown hg (by simpa using hGR))
      have HO5 := Lib.hid (HO4.out.kept hg (own_neR HO4.out (by omega)))
      have HG5 : Hid (w1.grownBy w5 (some R)) := Lib.hid (HG4.out.trans hg)
      have HR5 := Lib.hid hr
      have hz5 : G + 1 ≤ w5.heap.size := Nat.le_trans hz4 (by first | exact hg.size | (have := hg.size; simp at this; omega))
      replace k1 := k1 (by omega)
      obtain ⟨kk, rfl⟩ := Int.eq_ofNat_of_zero_le k0
      have hkk : kk < ds.length := by omega
      obtain ⟨bb, oo, hA, hbb, _, x2⟩ := (sd_of_own HO5.out (fun d hd => small_ok (HSM.out d hd))).at_ hkk
      subst hA
      have hv := (HSM.out _ (List.getElem_mem hkk)).2
      generalize ds[kk].val = zv at x2 hv
      clear hg hr
      go_simp
      refine hK.out _ _ D5.out.c0 (fun hHeld => ?_)
      clear hK K
      try simp only [Act.put, List.setIfInBounds_toArray, List.set_cons_zero, List.set_cons_succ]
      refine wpAnyH_take (i := 8) (v := ?_) rfl (by kernel_rfl) (by kernel_rfl) (by kernel_rfl) (fun _ _ _ h => h) (Or.inl ⟨by kernel_rfl, ?_⟩) hHeld ?_
      rotate_left
      · intro wz hSw
        try dsimp only at hSw
        first
        | (go_simp; done)
        | (go_simp; with_reducible rfl)
      try simp only [Act.put, List.setIfInBounds_toArray, List.set_cons_zero, List.set_cons_succ]
      refine wpAnyH_take (i := 9) (v := ?_) rfl (by kernel_rfl) (by kernel_rfl) (by kernel_rfl) (fun _ _ _ h => h) (Or.inl ⟨by kernel_rfl, ?_⟩) hHeld ?_
      rotate_left
      · intro wz hSw
        try dsimp only at hSw
        first
        | (go_simp; done)
        | (go_simp; with_reducible rfl)
      try simp only [Act.put, List.setIfInBounds_toArray, List.set_cons_zero, List.set_cons_succ]
      have hbb1 : bb ≠ w.heap.size := by have := (HO5.out.lt bb rfl).1; omega
      refine wpAnyH_ready (rs := [10, 11]) (by kernel_rfl) (by simp) ?_
      refine AllReadyH.cons rfl (fun K hK => ?_) (AllReadyH.cons rfl (fun K hK => ?_) AllReadyH.nil)
      · skip
        go_simp
        refine hK.out _ _ hHeld (fun hHeld => ?_)
        clear hK K
        try simp only [Act.put, List.setIfInBounds_toArray, List.set_cons_zero, List.set_cons_succ]
        refine wpAnyH_ready (rs := [11]) (by kernel_rfl) (by simp) ?_
        refine AllReadyH.cons rfl (fun K hK => ?_) AllReadyH.nil
        obtain ⟨x0, e0⟩ := id X5.out
        go_simp
        refine hK.out _ _ ((World.cell?_setCell_other _ _ _ _ (by intro e; injection e with e1 e2; omega)).trans D5.out.c0) (fun hHeld => ?_)
        clear hK K
        try simp only [Act.put, List.setIfInBounds_toArray, List.set_cons_zero, List.set_cons_succ]
        refine wpAnyH_take (i := 12) (v := ?_) rfl (by kernel_rfl) (by kernel_rfl) (by kernel_rfl) (fun _ _ _ h => h) (Or.inl ⟨by kernel_rfl, ?_⟩) hHeld ?_
        rotate_left
        · intro wz hSw
          try dsimp only at hSw
          first
          | (go_simp; done)
          | (go_simp; with_reducible rfl)
        try simp only [Act.put, List.setIfInBounds_toArray, List.set_cons_zero, List.set_cons_succ]
        refine wpAnyH_done (by kernel_rfl) ?_ _
        try go_simp
        have hX := X5.out.set0 (.slice (some ⟨bb, oo, none⟩) ds.length ca)
        obtain ⟨y0, _⟩ := id hX
        go_wp2
        refine bodyPost_ret (v := .tuple #[.agg #[.slice (some ⟨bb, oo, none⟩) ds.length ca], .int .i64 zv]) (by simp [results, Tryd.results22, go_sem, y0]) rfl ⟨(some ⟨bb, oo, none⟩), ca, ds, zv, rfl, hn, HSM.out, (by omega), ?_, ?_⟩
        · exact sd_of_own (own_setCell HO5.out (fun e => by have := (HO5.out.lt _ e).1; simp only at *; omega) _) (fun d hd => small_ok (HSM.out d hd))
        · exact (HB.out.grown HG5.out HB.out.size (fun q hq => by cases hq; omega)).setCell (Nat.le_refl _) _
      · skip
        obtain ⟨x0, e0⟩ := id X5.out
        go_simp
        refine hK.out _ _ ((World.cell?_setCell_other _ _ _ _ (by intro e; injection e with e1 e2; omega)).trans D5.out.c0) (fun hHeld => ?_)
        clear hK K
        try simp only [Act.put, List.setIfInBounds_toArray, List.set_cons_zero, List.set_cons_succ]
        refine wpAnyH_ready (rs := [10]) (by kernel_rfl) (by simp) ?_
        refine AllReadyH.cons rfl (fun K hK => ?_) AllReadyH.nil
        have x3 := (World.cell?_setCell_other w5 ⟨w.heap.size, 0, none⟩ ⟨bb, oo + kk * 2 + 1, none⟩ (.slice (some ⟨bb, oo, none⟩) ds.length ca) (by intro e; injection e with e1 e2; omega)).trans x2
        go_simp
        refine hK.out _ _ hHeld (fun hHeld => ?_)
        clear hK K
        try simp only [Act.put, List.setIfInBounds_toArray, List.set_cons_zero, List.set_cons_succ]
        refine wpAnyH_take (i := 12) (v := ?_) rfl (by kernel_rfl) (by kernel_rfl) (by kernel_rfl) (fun _ _ _ h => h) (Or.inl ⟨by kernel_rfl, ?_⟩) hHeld ?_
        rotate_left
        · intro wz hSw
          try dsimp only at hSw
          first
          | (go_simp; done)
          | (go_simp; with_reducible rfl)
        try simp only [Act.put, List.setIfInBounds_toArray, List.set_cons_zero, List.set_cons_succ]
        refine wpAnyH_done (by kernel_rfl) ?_ _
        try go_simp
        have hX := X5.out.set0 (.slice (some ⟨bb, oo, none⟩) ds.length ca)
        obtain ⟨y0, _⟩ := id hX
        go_wp2
        refine bodyPost_ret (v := .tuple #[.agg #[.slice (some ⟨bb, oo, none⟩) ds.length ca], .int .i64 zv]) (by simp [results, Tryd.results22, go_sem, y0]) rfl ⟨(some ⟨bb, oo, none⟩), ca, ds, zv, rfl, hn, HSM.out, (by omega), ?_, ?_⟩
        · exact sd_of_own (own_setCell HO5.out (fun e => by have := (HO5.out.lt _ e).1; simp only at *; omega) _) (fun d hd => small_ok (HSM.out d hd))
        · exact (HB.out.grown HG5.out HB.out.size (fun q hq => by cases hq; omega)).setCell (Nat.le_refl _) _
    · have hr1 : (r == 0) = false := by rw [beq_eq_false_iff_ne]; exact hr0
      go_upto_region 5 with fail
      refine wp_region_held_drew (S := (fun w' => w'.cell? ⟨G, 0, none⟩ = some (.slice Aa ds.length ca))) (by kernel_rfl) D4.out.c0 (fun hHeld => ?_)
      refine wpAnyH_take (i := 0) (v := ?_) rfl (by kernel_rfl) (by kernel_rfl) (by kernel_rfl) (fun _ _ _ h => h) (Or.inl ⟨by kernel_rfl, ?_⟩) hHeld ?_
      rotate_left
      · intro wz hSw
        try dsimp only at hSw
        first
        | (go_simp; done)
        | (go_simp; with_reducible rfl)
      try simp only [Act.put, List.setIfInBounds_toArray, List.set_cons_zero, List.set_cons_succ]
      refine wpAnyH_take (i := 1) (v := ?_) rfl (by kernel_rfl) (by kernel_rfl) (by kernel_rfl) (fun _ _ _ h => h) (Or.inl ⟨by kernel_rfl, ?_⟩) hHeld ?_
      rotate_left
      · intro wz hSw
        try dsimp only at hSw
        first
        | (go_simp; done)
        | (go_simp; with_reducible rfl)
      try simp only [Act.put, List.setIfInBounds_toArray, List.set_cons_zero, List.set_cons_succ]
      refine wpAnyH_ready (rs := [2]) (by kernel_rfl) (by simp) ?_
      refine AllReadyH.cons rfl (fun K hK => ?_) AllReadyH.nil
      go_simp
      have hbA : Below w4.heap.size w4 (w4.drew.alloc (.cells #[.int .i64 9, .int .i64 (-9), .int .i64 0, .int .i64 1000, .int .i64 (-1000), .int .i64 1001, .int .i64 (-1001)] 3)) := ((Below.refl _ _).drew).alloc (Nat.le_refl _) _
      refine hK.out _ _ (keep1 hbA D4.out.c0) (fun hHeld => ?_)
      clear hK K
      try simp only [Act.put, List.setIfInBounds_toArray, List.set_cons_zero, List.set_cons_succ]
      refine wpAnyH_ready (rs := [3]) (by kernel_rfl) (by simp) ?_
      refine AllReadyH.cons rfl (fun K hK => ?_) AllReadyH.nil
      go_simp
      refine (one_any (-5000) 5000 R _ A1 cb z1 (p2 + 1) w4.heap.size 7 7 _ (HR4.out.below hbA) (by omega) (by omega) (by omega) (by omega) (litI rfl rfl (by simp [allI]))).mono ?_
      rintro e w5 ⟨zv, rfl, v0, v1, hg0, hr⟩
      have hg : w4.grownBy w5 (some R) := (grown_of_below hbA (some R)).trans hg0
      have X5 := Lib.hid (X4.out.grown hg (by simpa using hwR))
      have D5 := Lib.hid (D4.out.grown hg (by simpa using hGR))
      have HO5 := Lib.hid (HO4.out.kept hg (own_neR HO4.out (by omega)))
      have HG5 : Hid (w1.grownBy w5 (some R)) := Lib.hid (HG4.out.trans hg)
      have HR5 := Lib.hid hr
      have hz5 : G + 1 ≤ w5.heap.size := Nat.le_trans hz4 (by first | exact hg.size | (have := hg.size; simp at this; omega))
      clear hg hg0 hr hbA
      go_simp
      refine hK.out _ _ D5.out.c0 (fun hHeld => ?_)
      clear hK K
      try simp only [Act.put, List.setIfInBounds_toArray, List.set_cons_zero, List.set_cons_succ]
      refine wpAnyH_ready (rs := [4]) (by kernel_rfl) (by simp) ?_
      refine AllReadyH.cons rfl (fun K hK => ?_) AllReadyH.nil
      obtain ⟨x0, e0⟩ := id X5.out
      go_simp
      refine hK.out _ _ ((World.cell?_setCell_other _ _ _ _ (by intro e; injection e with e1 e2; omega)).trans D5.out.c0) (fun hHeld => ?_)
      clear hK K
      try simp only [Act.put, List.setIfInBounds_toArray, List.set_cons_zero, List.set_cons_succ]
      refine wpAnyH_take (i := 5) (v := ?_) rfl (by kernel_rfl) (by kernel_rfl) (by kernel_rfl) (fun _ _ _ h => h) (Or.inl ⟨by kernel_rfl, ?_⟩) hHeld ?_
      rotate_left
      · intro wz hSw
        try dsimp only at hSw
        first
        | (go_simp; done)
        | (go_simp; with_reducible rfl)
      try simp only [Act.put, List.setIfInBounds_toArray, List.set_cons_zero, List.set_cons_succ]
      refine wpAnyH_done (by kernel_rfl) ?_ _
      try go_simp
      have hX := X5.out.set0 (.slice (Aa) ds.length ca)
      obtain ⟨y0, _⟩ := id hX
      go_wp2
      refine bodyPost_ret (v := .tuple #[.agg #[.slice (Aa) ds.length ca], .int .i64 zv]) (by simp [results, Tryd.results22, go_sem, y0]) rfl ⟨(Aa), ca, ds, zv, rfl, hn, HSM.out, (by omega), ?_, ?_⟩
      · exact sd_of_own (own_setCell HO5.out (fun e => by have := (HO5.out.lt _ e).1; simp only at *; omega) _) (fun d hd => small_ok (HSM.out d hd))
      · exact (HB.out.grown HG5.out HB.out.size (fun q hq => by cases hq; omega)).setCell (Nat.le_refl _) _
end Go.Proofs.YtboehlffbibgmaaDoor
