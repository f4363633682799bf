import Derived.Test.YtcaobalijnajgaaGenX
namespace Go.Proofs.Ytcaobalijnajgaa
open Go.RowKit
set_option linter.unusedVariables false
set_option linter.unusedSimpArgs false
set_option maxRecDepth 100000

/-- A drawn class and an arm. -/
def DrawFA (w : World) (e : Ending) (w' : World) : Prop :=
  ∃ (A : Option Addr) (c : Nat) (ds : List D) (b x y : Int), e = .returned (.tuple #[.agg #[.slice A ds.length c, .int .i64 b], .agg #[.int .i64 x, .int .i64 y]]) ∧ ds.length ≤ 13 ∧ (∀ d ∈ ds, d.small) ∧ (-1 ≤ b ∧ b ≤ 4) ∧ (-60000 ≤ x ∧ x ≤ 60000) ∧ (-60000 ≤ y ∧ y ≤ 60000) ∧ SD w' w'.heap.size A ds.length c ds ∧ Below w.heap.size w w'
/-- .. and a number. -/
def DrawFAN (w : World) (e : Ending) (w' : World) : Prop :=
  ∃ (A : Option Addr) (c : Nat) (ds : List D) (b x y z : Int), e = .returned (.tuple #[.agg #[.slice A ds.length c, .int .i64 b], .agg #[.int .i64 x, .int .i64 y], .int .i64 z]) ∧ ds.length ≤ 13 ∧ (∀ d ∈ ds, d.small) ∧ (-1 ≤ b ∧ b ≤ 4) ∧ (-60000 ≤ x ∧ x ≤ 60000) ∧ (-60000 ≤ y ∧ y ≤ 60000) ∧ (-1 ≤ z ∧ z ≤ 4096) ∧ SD w' w'.heap.size A ds.length c ds ∧ Below w.heap.size w w'
theorem SB.allocA {w : World} {A : Option Addr} {n c : Nat} {zs : List Int} (h : SB w w.heap.size A n c zs) (o o' : Obj) : SB ((w.alloc o).alloc o') ((w.alloc o).alloc o').heap.size A n c zs := (h.allocF o).allocF o'
set_option maxHeartbeats 4000000 in
theorem drawValidArm_any (A : Option Addr) (n c : Nat) (zs : List Int) (w : World) (h : SB w w.heap.size A n c zs) :
    Calls Try.prog 11 #[.slice A n c] w (DrawFA w) := by
  have HS := Lib.hid h
  clear h
  go_enter Try.func11, Try.ntmps11
  go_wp2_with fail
  refine (newReader_any A n c zs _ (HS.out.allocA _ _)).mono ?_
  rintro e w1 ⟨R, A1, cb, z1, rfl, hR, hr, hb⟩
  have hwR : w.heap.size ≠ R := by simp at hR; omega
  have hwR1 : w.heap.size + 1 ≠ R := by simp at hR; omega
  have HC1 : Hid (C2 w1 w.heap.size (.slice none 0 0) (.int .i64 0)) := Lib.hid (((c2New _ _ _ _).below ((Below.refl _ _).alloc (Nat.le_refl _) _)).below hb)
  have HE1 : Hid (C2 w1 (w.heap.size + 1) (.int .i64 0) (.int .i64 0)) := Lib.hid ((c2New' _ _ _ _ _).below hb)
  have HB : Hid (Below w.heap.size w w1) := Lib.hid ((((Below.refl _ _).alloc (Nat.le_refl _) _).alloc (by simp) _).trans (hb.mono (by simp; omega)))
  have HR1 := Lib.hid hr
  have hRl : w.heap.size + 2 ≤ R := by simpa using hR
  clear hr hb hR
  go_wp2_with fail
  refine (armIn_any R _ A1 cb z1 0 _ HR1.out (by omega)).mono ?_
  rintro e w2 ⟨A', c', ds, b, x, y, p2, rfl, hn, hsm, hbd, hx, hy, hown, hp2, hg, hr2⟩
  have HC2 := Lib.hid (HC1.out.grown hg (by simpa using hwR))
  have HE2 := Lib.hid (HE1.out.grown hg (by simpa using hwR1))
  have HG2 : Hid (w1.grownBy w2 (some R)) := Lib.hid hg
  have HO2 := Lib.hid hown
  have HSM := Lib.hid hsm
  have HBD := Lib.hid hbd
  have HR2l : Hid (R < w1.heap.size) := Lib.hid HR1.out.lt
  have HR2 := Lib.hid hr2
  clear hg hown hsm hbd HC1 HE1 HR1 hr2
  obtain ⟨c0, c1, f0, f1⟩ := HC2.out
  obtain ⟨e0, e1, g0, g1⟩ := HE2.out
  go_wp2
  refine bodyPost_ret (v := .tuple #[.agg #[.slice A' ds.length c', .int .i64 b], .agg #[.int .i64 x, .int .i64 y]]) (by simp [results, Try.results11, go_sem, c0, c1, e0, e1]) rfl ⟨A', c', ds, b, x, y, rfl, hn, HSM.out, HBD.out, hx, hy, ?_, ?_⟩
  · exact sd_of_own (own_setCell (own_setCell (own_setCell (own_setCell HO2.out (fun e => by have := (HO2.out.lt _ e).1; have := HR2l.out; simp only at *; omega) _) (fun e => by have := (HO2.out.lt _ e).1; have := HR2l.out; simp only at *; omega) _) (fun e => by have := (HO2.out.lt _ e).1; have := HR2l.out; simp only at *; omega) _) (fun e => by have := (HO2.out.lt _ e).1; have := HR2l.out; simp only at *; omega) _) (fun d hd => small_ok (HSM.out d hd))
  · exact ((((HB.out.grown HG2.out HB.out.size (fun k hk => by cases hk; omega)).setCell (by simp) _).setCell (by simp) _).setCell (by simp) _).setCell (by simp) _
set_option maxHeartbeats 4000000 in
theorem drawCountArm_any (A : Option Addr) (n c : Nat) (zs : List Int) (w : World) (h : SB w w.heap.size A n c zs) :
    Calls Try.prog 33 #[.slice A n c] w (DrawFA w) := by
  have HS := Lib.hid h
  clear h
  go_enter Try.func33, Try.ntmps33
  go_wp2_with fail
  refine (newReader_any A n c zs _ (HS.out.allocA _ _)).mono ?_
  rintro e w1 ⟨R, A1, cb, z1, rfl, hR, hr, hb⟩
  have hwR : w.heap.size ≠ R := by simp at hR; omega
  have hwR1 : w.heap.size + 1 ≠ R := by simp at hR; omega
  have HC1 : Hid (C2 w1 w.heap.size (.slice none 0 0) (.int .i64 0)) := Lib.hid (((c2New _ _ _ _).below ((Below.refl _ _).alloc (Nat.le_refl _) _)).below hb)
  have HE1 : Hid (C2 w1 (w.heap.size + 1) (.int .i64 0) (.int .i64 0)) := Lib.hid ((c2New' _ _ _ _ _).below hb)
  have HB : Hid (Below w.heap.size w w1) := Lib.hid ((((Below.refl _ _).alloc (Nat.le_refl _) _).alloc (by simp) _).trans (hb.mono (by simp; omega)))
  have HR1 := Lib.hid hr
  have hRl : w.heap.size + 2 ≤ R := by simpa using hR
  clear hr hb hR
  go_wp2_with fail
  refine (armIn_any R _ A1 cb z1 0 _ HR1.out (by omega)).mono ?_
  rintro e w2 ⟨A', c', ds, b, x, y, p2, rfl, hn, hsm, hbd, hx, hy, hown, hp2, hg, hr2⟩
  have HC2 := Lib.hid (HC1.out.grown hg (by simpa using hwR))
  have HE2 := Lib.hid (HE1.out.grown hg (by simpa using hwR1))
  have HG2 : Hid (w1.grownBy w2 (some R)) := Lib.hid hg
  have HO2 := Lib.hid hown
  have HSM := Lib.hid hsm
  have HBD := Lib.hid hbd
  have HR2l : Hid (R < w1.heap.size) := Lib.hid HR1.out.lt
  have HR2 := Lib.hid hr2
  clear hg hown hsm hbd HC1 HE1 HR1 hr2
  obtain ⟨c0, c1, f0, f1⟩ := HC2.out
  obtain ⟨e0, e1, g0, g1⟩ := HE2.out
  go_wp2
  refine bodyPost_ret (v := .tuple #[.agg #[.slice A' ds.length c', .int .i64 b], .agg #[.int .i64 x, .int .i64 y]]) (by simp [results, Try.results33, go_sem, c0, c1, e0, e1]) rfl ⟨A', c', ds, b, x, y, rfl, hn, HSM.out, HBD.out, hx, hy, ?_, ?_⟩
  · exact sd_of_own (own_setCell (own_setCell (own_setCell (own_setCell HO2.out (fun e => by have := (HO2.out.lt _ e).1; have := HR2l.out; simp only at *; omega) _) (fun e => by have := (HO2.out.lt _ e).1; have := HR2l.out; simp only at *; omega) _) (fun e => by have := (HO2.out.lt _ e).1; have := HR2l.out; simp only at *; omega) _) (fun e => by have := (HO2.out.lt _ e).1; have := HR2l.out; simp only at *; omega) _) (fun d hd => small_ok (HSM.out d hd))
  · exact ((((HB.out.grown HG2.out HB.out.size (fun k hk => by cases hk; omega)).setCell (by simp) _).setCell (by simp) _).setCell (by simp) _).setCell (by simp) _
set_option maxHeartbeats 4000000 in
theorem drawMatchArm_any (A : Option Addr) (n c : Nat) (zs : List Int) (w : World) (h : SB w w.heap.size A n c zs) :
    Calls Try.prog 14 #[.slice A n c] w (DrawFAN w) := by
  have HS := Lib.hid h
  clear h
  go_enter Try.func14, Try.ntmps14
  go_wp2_with fail
  refine (newReader_any A n c zs _ (HS.out.allocA _ _)).mono ?_
  rintro e w1 ⟨R, A1, cb, z1, rfl, hR, hr, hb⟩
  have hwR : w.heap.size ≠ R := by simp at hR; omega
  have hwR1 : w.heap.size + 1 ≠ R := by simp at hR; omega
  have HC1 : Hid (C2 w1 w.heap.size (.slice none 0 0) (.int .i64 0)) := Lib.hid (((c2New _ _ _ _).below ((Below.refl _ _).alloc (Nat.le_refl _) _)).below hb)
  have HE1 : Hid (C2 w1 (w.heap.size + 1) (.int .i64 0) (.int .i64 0)) := Lib.hid ((c2New' _ _ _ _ _).below hb)
  have HB : Hid (Below w.heap.size w w1) := Lib.hid ((((Below.refl _ _).alloc (Nat.le_refl _) _).alloc (by simp) _).trans (hb.mono (by simp; omega)))
  have HR1 := Lib.hid hr
  have hRl : w.heap.size + 2 ≤ R := by simpa using hR
  clear hr hb hR
  go_wp2_with fail
  refine (armIn_any R _ A1 cb z1 0 _ HR1.out (by omega)).mono ?_
  rintro e w2 ⟨A', c', ds, b, x, y, p2, rfl, hn, hsm, hbd, hx, hy, hown, hp2, hg, hr2⟩
  have HC2 := Lib.hid (HC1.out.grown hg (by simpa using hwR))
  have HE2 := Lib.hid (HE1.out.grown hg (by simpa using hwR1))
  have HG2 : Hid (w1.grownBy w2 (some R)) := Lib.hid hg
  have HO2 := Lib.hid hown
  have HSM := Lib.hid hsm
  have HBD := Lib.hid hbd
  have HR2l : Hid (R < w1.heap.size) := Lib.hid HR1.out.lt
  have HR2 := Lib.hid hr2
  clear hg hown hsm hbd HC1 HE1 HR1 hr2
  have hz2 : w1.heap.size ≤ w2.heap.size := HG2.out.size
  obtain ⟨w3, hw⟩ : ∃ W : World, W = (w2.alloc (.cells #[.slice A' ds.length c', .int .i64 b] 25)).alloc (.cells #[.int .i64 x, .int .i64 y] 27) := ⟨_, rfl⟩
  have hb : Below w2.heap.size w2 w3 := by rw [hw]; exact ((Below.refl _ _).alloc (Nat.le_refl _) _).alloc (by simp) _
  have HF3 : Hid (C2 w3 w2.heap.size (.slice A' ds.length c') (.int .i64 b)) := Lib.hid (by rw [hw]; exact (c2New _ _ _ _).below ((Below.refl _ _).alloc (Nat.le_refl _) _))
  have HA3 : Hid (C2 w3 (w2.heap.size + 1) (.int .i64 x) (.int .i64 y)) := Lib.hid (by rw [hw]; exact c2New' _ _ _ _ _)
  have HC3 := Lib.hid (HC2.out.below hb)
  have HE3 := Lib.hid (HE2.out.below hb)
  have HO3 := Lib.hid (own_below HO2.out hb)
  have HG3 : Hid (w1.grownBy w3 (some R)) := Lib.hid (HG2.out.trans (grown_of_below hb _))
  have HR3 := Lib.hid (HR2.out.below hb)
  have HW := Lib.hid hw.symm
  have hR1 := HR2l.out
  have hGR : w2.heap.size ≠ R := by omega
  have hGR1 : w2.heap.size + 1 ≠ R := by omega
  have n1 : w2.heap.size ≠ w.heap.size := by omega
  have n2 : w.heap.size ≠ w2.heap.size := by omega
  have n3 : w2.heap.size ≠ w.heap.size + 1 := by omega
  have n4 : w.heap.size + 1 ≠ w2.heap.size := by omega
  have n5 : w2.heap.size + 1 ≠ w.heap.size := by omega
  have n6 : w.heap.size ≠ w2.heap.size + 1 := by omega
  have n7 : w2.heap.size + 1 ≠ w.heap.size + 1 := by omega
  have n8 : w.heap.size + 1 ≠ w2.heap.size + 1 := by omega
  have n9 : w2.heap.size ≠ w2.heap.size + 1 := by omega
  clear hb hw HC2 HE2 HO2 HG2 HR2
  go_wp2_with fail
  rw [HW.out]
  clear HW
  generalize hG : w2.heap.size = G at *
  clear hG
  obtain ⟨d0, d1, _, _⟩ := HF3.out
  obtain ⟨a0, a1, _, _⟩ := HA3.out
  go_region_held3 (fun w' => w'.cell? ⟨G, 0, none⟩ = some (.slice A' ds.length c') ∧ w'.cell? ⟨G, 1, none⟩ = some (.int .i64 b) ∧ w'.cell? ⟨G + 1, 0, none⟩ = some (.int .i64 x) ∧ w'.cell? ⟨G + 1, 1, none⟩ = some (.int .i64 y)) (first | go_keep | exact ⟨d0, d1, a0, a1⟩ | exact ⟨x0, x1, x2, x3⟩)
    (first | (go_at_call 43; refine (aValue_any R _ A1 cb z1 p2 ds b A' ds.length c' w1.heap.size _ (HR3.out.drewN 1) (by omega) (own_below HO3.out (below_drewN (Below.refl _ _) 1)) (fun d hd => small_ok (HSM.out d hd)) (by omega)).mono ?_; rintro e w4 ⟨z, p4, rfl, hz, hp4, hg, hr⟩; replace hg : w3.grownBy w4 (some R) := ⟨hg.os, hg.tape, hg.output, hg.size, hg.block⟩; have HC4 := Lib.hid (HC3.out.grown hg (by simpa using hwR)); have HE4 := Lib.hid (HE3.out.grown hg (by simpa using hwR1)); have HF4 := Lib.hid (HF3.out.grown hg (by simpa using hGR)); have HA4 := Lib.hid (HA3.out.grown hg (by simpa using hGR1)); have x0 := HF4.out.c0; have x1 := HF4.out.c1; have x2 := HA4.out.c0; have x3 := HA4.out.c1; have y0 := HC4.out.c0; have y1 := HC4.out.c1; have z0 := HC4.out.f0; have z1 := HC4.out.f1; have e0 := HE4.out.c0; have e1 := HE4.out.c1; have g0 := HE4.out.f0; have g1 := HE4.out.f1))
  have HO4 := Lib.hid (HO3.out.kept hg (own_neR HO3.out (by omega)))
  have HG4 : Hid (w1.grownBy w4 (some R)) := Lib.hid (HG3.out.trans hg)
  clear hg hr
  go_wp2
  refine bodyPost_ret (v := .tuple #[.agg #[.slice A' ds.length c', .int .i64 b], .agg #[.int .i64 x, .int .i64 y], .int .i64 z]) (by simp [results, Try.results14, go_sem, y0, y1, e0, e1]) rfl ⟨A', c', ds, b, x, y, z, rfl, hn, HSM.out, HBD.out, hx, hy, hz, ?_, ?_⟩
  · exact sd_of_own (own_setCell (own_setCell (own_setCell (own_setCell HO4.out (fun e => by have := (HO4.out.lt _ e).1; have := HR2l.out; simp only at *; omega) _) (fun e => by have := (HO4.out.lt _ e).1; have := HR2l.out; simp only at *; omega) _) (fun e => by have := (HO4.out.lt _ e).1; have := HR2l.out; simp only at *; omega) _) (fun e => by have := (HO4.out.lt _ e).1; have := HR2l.out; simp only at *; omega) _) (fun d hd => small_ok (HSM.out d hd))
  · exact ((((HB.out.grown HG4.out HB.out.size (fun k hk => by cases hk; omega)).setCell (by simp only; omega) _).setCell (by simp only; omega) _).setCell (by simp only; omega) _).setCell (by simp only; omega) _
end Go.Proofs.Ytcaobalijnajgaa
