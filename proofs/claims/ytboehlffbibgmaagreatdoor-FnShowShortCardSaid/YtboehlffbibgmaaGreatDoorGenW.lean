import Derived.Test.YtboehlffbibgmaaGreatDoorGenV
namespace Go.Proofs.YtboehlffbibgmaaGreatDoor
open Go.RowKit
set_option linter.unusedVariables false
set_option maxRecDepth 100000

/-- What valueIn makes: the class in a row of its own, and a number. -/
def GenFN (R B : Nat) (A : Option Addr) (cb : Nat) (zs : List Int) (p : Nat) (w : World) (e : Ending) (w' : World) : Prop :=
  ∃ (A' : Option Addr) (c : Nat) (ds : List D) (b x : Int), e = .returned (.tuple #[.agg #[.slice A' ds.length c, .int .i64 b], .int .i64 x]) ∧ ds.length ≤ 13 ∧ (∀ d ∈ ds, d.small) ∧ (-1 ≤ b ∧ b ≤ 4) ∧ (-1 ≤ x ∧ x ≤ 4096) ∧
    w'.ownsRow w.heap.size 82 2 (.slice A' ds.length c) ds.length (flat ds) ∧ w.grownBy w' (some R)
set_option maxHeartbeats 8000000 in
theorem valueIn_any (R B : Nat) (A : Option Addr) (cb : Nat) (zs : List Int) (p : Nat) (w : World) (h : Rdr w R B A cb zs p) (hp : p + 200 ≤ 100000) :
    Calls Tryz.prog 19 #[.pointer (some ⟨R, 0, none⟩)] w (GenFN R B A cb zs p w) := by
  have hRw := h.lt
  have HR := Lib.hid h
  clear h
  obtain ⟨w1, hw⟩ : ∃ W : World, W = w.alloc (.cells #[.slice none 0 0, .int .i64 0] 25) := ⟨_, rfl⟩
  have hb : Below w.heap.size w w1 := by rw [hw]; exact (Below.refl _ _).alloc (Nat.le_refl _) _
  have hz1 : w.heap.size + 1 ≤ w1.heap.size := by rw [hw]; simp
  have HC1 : Hid (C2 w1 w.heap.size (.slice none 0 0) (.int .i64 0)) := Lib.hid (by rw [hw]; exact c2New _ _ _ _)
  have HR1 := Lib.hid (HR.out.below hb)
  have HG1 : Hid (w.grownBy w1 (some R)) := Lib.hid (grown_of_below hb _)
  have HW := Lib.hid hw.symm
  have hwR : w.heap.size ≠ R := by omega
  clear hb hw HR
  go_enter Tryz.func19, Tryz.ntmps19
  go_wp2_with fail
  rw [HW.out]
  clear HW
  refine (someFlag_any R B A cb zs p _ HR1.out (by omega)).mono ?_
  rintro e w2 ⟨A', c, ds, b, p', rfl, hn, hsm, hbd, hown, hp', hg, hr⟩
  have hz2 : w1.heap.size ≤ w2.heap.size := hg.size
  have HC2 := Lib.hid (HC1.out.grown hg (by simpa using hwR))
  have HO2 := Lib.hid (own_base hown (show w.heap.size + 1 ≤ _ by omega))
  have HG2 : Hid (w.grownBy w2 (some R)) := Lib.hid (HG1.out.trans hg)
  have HR2 := Lib.hid hr
  have HSM := Lib.hid hsm
  have HOK : Hid (∀ d ∈ ds, d.ok) := Lib.hid fun d hd => small_ok (hsm d hd)
  have HBD := Lib.hid hbd
  clear hg hown hr hsm hbd HC1 HG1 HR1
  obtain ⟨w3, hw⟩ : ∃ W : World, W = w2.alloc (.cells #[.slice A' ds.length c, .int .i64 b] 25) := ⟨_, rfl⟩
  have hb : Below w2.heap.size w2 w3 := by rw [hw]; exact (Below.refl _ _).alloc (Nat.le_refl _) _
  have hz3 : w2.heap.size + 1 ≤ w3.heap.size := by rw [hw]; simp
  have HD3 : Hid (C2 w3 w2.heap.size (.slice A' ds.length c) (.int .i64 b)) := Lib.hid (by rw [hw]; exact c2New _ _ _ _)
  have HC3 := Lib.hid (HC2.out.below hb)
  have HO3 := Lib.hid (own_below HO2.out hb)
  have HG3 : Hid (w.grownBy w3 (some R)) := Lib.hid (HG2.out.trans (grown_of_below hb _))
  have HR3 := Lib.hid (HR2.out.below hb)
  have HW := Lib.hid hw.symm
  have hGR : w2.heap.size ≠ R := by omega
  have hGw : w2.heap.size ≠ w.heap.size := by omega
  have hGw' : w.heap.size ≠ w2.heap.size := by omega
  clear hb hw HC2 HO2 HG2 HR2
  go_wp2_with fail
  rw [HW.out]
  clear HW
  obtain ⟨d0, d1, _, _⟩ := HD3.out
  generalize hG : w2.heap.size = G at *
  clear hG
  go_region_held3 (fun w' => w'.cell? ⟨G, 0, none⟩ = some (.slice A' ds.length c) ∧ w'.cell? ⟨G, 1, none⟩ = some (.int .i64 b)) (first | go_keep | exact ⟨d0, d1⟩ | exact ⟨x0, x1⟩)
    (first | (go_at_call 45; refine (aValue_any R B A cb zs p' ds b A' ds.length c (w.heap.size + 1) _ (HR3.out.drewN 1) (by omega) (own_below HO3.out (below_drewN (Below.refl _ _) 1)) HOK.out (by omega)).mono ?_; rintro e w4 ⟨x, p4, rfl, hx, hp4, hg, hr⟩; replace hg : w3.grownBy w4 (some R) := ⟨hg.os, hg.tape, hg.output, hg.size, hg.block⟩; have HC4 := Lib.hid (HC3.out.grown hg (by simpa using hwR)); have HD4 := Lib.hid (HD3.out.grown hg (by simpa using hGR)); have x0 := HD4.out.c0; have x1 := HD4.out.c1; have y0 := HC4.out.c0; have y1 := HC4.out.c1; have z0 := HC4.out.f0; have z1 := HC4.out.f1))
  have HO4 := Lib.hid (HO3.out.kept hg (own_neR HO3.out (by omega)))
  have HG4 : Hid (w.grownBy w4 (some R)) := Lib.hid (HG3.out.trans hg)
  clear hg hr
  go_wp2
  refine bodyPost_ret (v := .tuple #[.agg #[.slice A' ds.length c, .int .i64 b], .int .i64 x]) (by simp [results, Tryz.results19, go_sem, y0, y1]) rfl ⟨A', c, ds, b, _, rfl, hn, HSM.out, HBD.out, ⟨by omega, by omega⟩, ?_, ?_⟩
  · exact own_setCell (own_setCell (own_base HO4.out (by omega)) (fun e => by have := (HO4.out.lt _ e).1; simp only at *; omega) _) (fun e => by have := (HO4.out.lt _ e).1; simp only at *; omega) _
  · exact grown_set (grown_set HG4.out (Nat.le_refl _) _) (Nat.le_refl _) _
set_option maxHeartbeats 2000000 in
theorem drawShowValue_any (A : Option Addr) (n c : Nat) (zs : List Int) (w : World) (h : SB w w.heap.size A n c zs) :
    Calls Tryz.prog 6 #[.slice A n c] w (DrawFN w) := by
  have HS := Lib.hid h
  clear h
  go_enter Tryz.func6, Tryz.ntmps6
  go_wp2_with fail
  refine (newReader_any A n c zs _ (HS.out.allocF _)).mono ?_
  rintro e w1 ⟨R, A1, cb, z1, rfl, hR, hr, hb⟩
  have hwR : w.heap.size ≠ R := by simp at hR; omega
  have HC1 : Hid (C2 w1 w.heap.size (.slice none 0 0) (.int .i64 0)) := Lib.hid ((c2New _ _ _ _).below hb)
  have HB : Hid (Below w.heap.size w w1) := Lib.hid (((Below.refl _ _).alloc (Nat.le_refl _) _).trans (hb.mono (by simp)))
  have HR1 := Lib.hid hr
  have hRl : w.heap.size + 1 ≤ R := by simpa using hR
  clear hr hb hR
  go_wp2_with fail
  refine (valueIn_any R _ A1 cb z1 0 _ HR1.out (by omega)).mono ?_
  rintro e w2 ⟨A', c', ds, b, x, rfl, hn, hsm, hbd, hx, hown, hg⟩
  have HC2 := Lib.hid (HC1.out.grown hg (by simpa using hwR))
  have HG2 : Hid (w1.grownBy w2 (some R)) := Lib.hid hg
  have HO2 := Lib.hid hown
  have HSM := Lib.hid hsm
  have HBD := Lib.hid hbd
  have HR2l : Hid (R < w1.heap.size) := Lib.hid HR1.out.lt
  clear hg hown hsm hbd HC1 HR1
  obtain ⟨c0, c1, f0, f1⟩ := HC2.out
  go_wp2
  refine bodyPost_ret (v := .tuple #[.agg #[.slice A' ds.length c', .int .i64 b], .int .i64 x]) (by simp [results, Tryz.results6, go_sem, c0, c1]) rfl ⟨A', c', ds, b, x, rfl, hn, HSM.out, HBD.out, ⟨by omega, by omega⟩, ?_, ?_⟩
  · exact sd_of_own (own_setCell (own_setCell HO2.out (fun e => by have := (HO2.out.lt _ e).1; have := HR2l.out; simp only at *; omega) _) (fun e => by have := (HO2.out.lt _ e).1; have := HR2l.out; simp only at *; omega) _) (fun d hd => small_ok (HSM.out d hd))
  · exact ((HB.out.grown HG2.out HB.out.size (fun k hk => by cases hk; omega)).setCell (Nat.le_refl _) _).setCell (Nat.le_refl _) _
set_option maxHeartbeats 2000000 in
theorem drawShowShort_any (A : Option Addr) (n c : Nat) (zs : List Int) (w : World) (h : SB w w.heap.size A n c zs) :
    Calls Tryz.prog 13 #[.slice A n c] w (DrawFN w) := by
  have HS := Lib.hid h
  clear h
  go_enter Tryz.func13, Tryz.ntmps13
  go_wp2_with fail
  refine (newReader_any A n c zs _ (HS.out.allocF _)).mono ?_
  rintro e w1 ⟨R, A1, cb, z1, rfl, hR, hr, hb⟩
  have hwR : w.heap.size ≠ R := by simp at hR; omega
  have HC1 : Hid (C2 w1 w.heap.size (.slice none 0 0) (.int .i64 0)) := Lib.hid ((c2New _ _ _ _).below hb)
  have HB : Hid (Below w.heap.size w w1) := Lib.hid (((Below.refl _ _).alloc (Nat.le_refl _) _).trans (hb.mono (by simp)))
  have HR1 := Lib.hid hr
  have hRl : w.heap.size + 1 ≤ R := by simpa using hR
  clear hr hb hR
  go_wp2_with fail
  refine (valueIn_any R _ A1 cb z1 0 _ HR1.out (by omega)).mono ?_
  rintro e w2 ⟨A', c', ds, b, x, rfl, hn, hsm, hbd, hx, hown, hg⟩
  have HC2 := Lib.hid (HC1.out.grown hg (by simpa using hwR))
  have HG2 : Hid (w1.grownBy w2 (some R)) := Lib.hid hg
  have HO2 := Lib.hid hown
  have HSM := Lib.hid hsm
  have HBD := Lib.hid hbd
  have HR2l : Hid (R < w1.heap.size) := Lib.hid HR1.out.lt
  clear hg hown hsm hbd HC1 HR1
  obtain ⟨c0, c1, f0, f1⟩ := HC2.out
  go_wp2
  refine bodyPost_ret (v := .tuple #[.agg #[.slice A' ds.length c', .int .i64 b], .int .i64 x]) (by simp [results, Tryz.results13, go_sem, c0, c1]) rfl ⟨A', c', ds, b, x, rfl, hn, HSM.out, HBD.out, ⟨by omega, by omega⟩, ?_, ?_⟩
  · exact sd_of_own (own_setCell (own_setCell HO2.out (fun e => by have := (HO2.out.lt _ e).1; have := HR2l.out; simp only at *; omega) _) (fun e => by have := (HO2.out.lt _ e).1; have := HR2l.out; simp only at *; omega) _) (fun d hd => small_ok (HSM.out d hd))
  · exact ((HB.out.grown HG2.out HB.out.size (fun k hk => by cases hk; omega)).setCell (Nat.le_refl _) _).setCell (Nat.le_refl _) _
end Go.Proofs.YtboehlffbibgmaaGreatDoor
