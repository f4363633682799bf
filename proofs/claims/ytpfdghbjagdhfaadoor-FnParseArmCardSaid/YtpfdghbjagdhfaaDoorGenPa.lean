import Derived.Test.YtpfdghbjagdhfaaDoorGenTx
import Derived.Test.YtpfdghbjagdhfaaDoorGenX
import Derived.Test.YtpfdghbjagdhfaaDoorBaseO
namespace Go.Proofs.YtpfdghbjagdhfaaDoor
open Go.RowKit
set_option linter.unusedVariables false
set_option linter.unusedSimpArgs false
set_option maxRecDepth 100000

set_option maxHeartbeats 16000000 in
theorem drawParseArm_any (A : Option Addr) (n c : Nat) (zs : List Int) (w : World) (h : SB w w.heap.size A n c zs) :
    Calls Tryd.prog 39 #[.slice A n c] w (DrawFT w) := by
  have HS := Lib.hid h
  clear h
  go_enter Tryd.func39, Tryd.ntmps39
  go_wp2_with fail
  refine (newReader_any A n c zs _ (HS.out.allocF _)).mono ?_
  rintro e w1 ⟨R, A1, cb, z1, rfl, hR, hr, hb⟩
  have hwR : w.heap.size ≠ R := by simp at hR; omega
  have HC1 : Hid (C2 w1 w.heap.size (.slice none 0 0) (.int .i64 0)) := Lib.hid ((c2New _ _ _ _).below hb)
  have HB : Hid (Below w.heap.size w w1) := Lib.hid (((Below.refl _ _).alloc (Nat.le_refl _) _).trans (hb.mono (by simp)))
  have HR1 := Lib.hid hr
  have hRl : w.heap.size + 1 ≤ R := by simpa using hR
  have hR1 := HR1.out.lt
  clear hr hb hR
  go_wp2_with fail
  refine (someFlag_any R _ A1 cb z1 0 _ HR1.out (by omega)).mono ?_
  rintro e w2 ⟨A', c', ds, b, p2, rfl, hn, hsm, hbd, hown, hp2, hg, hr⟩
  have HC2 := Lib.hid (HC1.out.grown hg (by simpa using hwR))
  have HG2 : Hid (w1.grownBy w2 (some R)) := Lib.hid hg
  have hz2 : w1.heap.size ≤ w2.heap.size := hg.size
  have HO2 := Lib.hid hown
  have HSM := Lib.hid hsm
  have HBD := Lib.hid hbd
  have HR2 := Lib.hid hr
  clear hg hown hsm hbd HC1 HR1 hr
  obtain ⟨w3, hw⟩ : ∃ W : World, W = w2.alloc (.cells #[.slice A' ds.length c', .int .i64 b] 32) := ⟨_, rfl⟩
  have hb : Below w2.heap.size w2 w3 := by rw [hw]; exact (Below.refl _ _).alloc (Nat.le_refl _) _
  have HF3 : Hid (C2 w3 w2.heap.size (.slice A' ds.length c') (.int .i64 b)) := Lib.hid (by rw [hw]; exact c2New _ _ _ _)
  have hz3 : w2.heap.size + 1 ≤ w3.heap.size := by rw [hw]; simp
  have HC3 := Lib.hid (HC2.out.below hb)
  have HO3 := Lib.hid (own_below HO2.out hb)
  have HG3 : Hid (w1.grownBy w3 (some R)) := Lib.hid (HG2.out.trans (grown_of_below hb _))
  have HR3 := Lib.hid (HR2.out.below hb)
  have HW := Lib.hid hw.symm
  have hGR : w2.heap.size ≠ R := by omega
  have n1 : w2.heap.size ≠ w.heap.size := by omega
  have n2 : w.heap.size ≠ w2.heap.size := by omega
  have hGl : w.heap.size ≤ w2.heap.size := by omega
  have hRl1 : R < w1.heap.size := hR1
  clear hb hw HC2 HO2 HG2 HR2
  go_wp2_with fail
  rw [HW.out]
  clear HW
  generalize hG : w2.heap.size = G at *
  clear hG
  obtain ⟨d0, d1, _, _⟩ := HF3.out
  go_region_held3 (fun w' => w'.cell? ⟨G, 0, none⟩ = some (.slice A' ds.length c') ∧ w'.cell? ⟨G, 1, none⟩ = some (.int .i64 b)) (first | go_keep | exact ⟨d0, d1⟩ | exact ⟨x0, x1⟩ | exact ⟨y0, y1⟩)
    (first
      | (go_at_call 79; refine (anArm_any R _ A1 cb z1 p2 ds b A' ds.length c' w1.heap.size _ (HR3.out.drewN 1) (by omega) (own_below HO3.out (below_drewN (Below.refl _ _) 1)) HSM.out).mono ?_; rintro e w4 ⟨x, y, p4, rfl, hx, hy, hp4, hg, hr⟩; replace hg : w3.grownBy w4 (some R) := ⟨hg.os, hg.tape, hg.output, hg.size, hg.block⟩; have HC4 := Lib.hid (HC3.out.grown hg (by simpa using hwR)); have HF4 := Lib.hid (HF3.out.grown hg (by simpa using hGR)); have x0 := HF4.out.c0; have x1 := HF4.out.c1; have HO4 := Lib.hid (HO3.out.kept hg (own_neR HO3.out hR1)); have HG4 : Hid (w1.grownBy w4 (some R)) := Lib.hid (HG3.out.trans hg); have HR4 := Lib.hid hr; clear hg hr)
      | (go_at_call 78; refine (armText_w ds b x y _ _ _ _ (sd_of_own HO4.out (fun d hd => small_ok (HSM.out d hd))) (fun d hd => (HSM.out d hd).1)).mono ?_; rintro e w5 ⟨s, rfl, hs, hb⟩; have HC5 := Lib.hid (HC4.out.below hb); have HF5 := Lib.hid (HF4.out.below hb); have y0 := HF5.out.c0; have y1 := HF5.out.c1; have HO5 := Lib.hid (own_below HO4.out hb); have HG5 : Hid (w1.grownBy w5 (some R)) := Lib.hid (HG4.out.trans (grown_of_below hb _)); have HR5 := Lib.hid (HR4.out.below hb); clear hb))
  clear x0 x1 y0 y1 d0 d1 HC3 HF3 HO3 HG3 HR3 HC4 HF4 HO4 HG4 HR4
  obtain ⟨c0, c1, f0, f1⟩ := HC5.out
  obtain ⟨d0, d1, _, _⟩ := HF5.out
  go_wp2_with fail
  refine (pick_any 3 R _ A1 cb z1 _ _ HR5.out (by omega) (by omega) (by omega)).mono ?_
  rintro e w12 ⟨m6, rfl, m6a, m6b, hg, hr⟩
  clear c0 c1 f0 f1 d0 d1
  have HC12 := Lib.hid (HC5.out.grown hg (by simpa using hwR))
  have HF12 := Lib.hid (HF5.out.grown hg (by simpa using hGR))
  have HO12 := Lib.hid (HO5.out.kept hg (own_neR HO5.out hR1))
  have HG12 : Hid (w1.grownBy w12 (some R)) := Lib.hid (HG5.out.trans hg)
  have HR12 := Lib.hid hr
  clear hg hr HC5 HF5 HO5 HG5 HR5
  by_cases hm6 : m6 = 0
  · subst hm6
    obtain ⟨c0, c1, f0, f1⟩ := HC12.out
    obtain ⟨d0, d1, _, _⟩ := HF12.out
    go_wp2_with fail
    refine (mutate_any R _ A1 cb z1 _ s _ HR12.out (by omega) (by omega)).mono ?_
    rintro e w13 ⟨t, p8, rfl, ht, hp8, hg, hr⟩
    clear c0 c1 f0 f1 d0 d1
    have HC13 := Lib.hid (HC12.out.grown hg (by simpa using hwR))
    have HF13 := Lib.hid (HF12.out.grown hg (by simpa using hGR))
    have HO13 := Lib.hid (HO12.out.kept hg (own_neR HO12.out hR1))
    have HG13 : Hid (w1.grownBy w13 (some R)) := Lib.hid (HG12.out.trans hg)
    have HR13 := Lib.hid hr
    clear hg hr HC12 HF12 HO12 HG12 HR12
    obtain ⟨c0, c1, f0, f1⟩ := HC13.out
    obtain ⟨d0, d1, _, _⟩ := HF13.out
    go_wp2
    refine bodyPost_ret (v := .tuple #[.agg #[.slice A' ds.length c', .int .i64 b], .string t]) (by simp [results, Tryd.results39, go_sem, c0, c1, d0, d1]) rfl ⟨A', c', ds, b, t, rfl, hn, HSM.out, HBD.out, by omega, ?_, ?_⟩
    · exact sd_of_own (own_setCell (own_setCell HO13.out (fun e => by have := (HO13.out.lt _ e).1; simp only at *; omega) _) (fun e => by have := (HO13.out.lt _ e).1; simp only at *; omega) _) (fun d hd => small_ok (HSM.out d hd))
    · exact ((HB.out.grown HG13.out HB.out.size (fun k hk => by cases hk; omega)).setCell (Nat.le_refl _) _).setCell (Nat.le_refl _) _
  · have hm60 : (m6 == 0) = false := by rw [beq_eq_false_iff_ne]; exact hm6
    obtain ⟨c0, c1, f0, f1⟩ := HC12.out
    obtain ⟨d0, d1, _, _⟩ := HF12.out
    go_wp2
    refine bodyPost_ret (v := .tuple #[.agg #[.slice A' ds.length c', .int .i64 b], .string s]) (by simp [results, Tryd.results39, go_sem, c0, c1, d0, d1]) rfl ⟨A', c', ds, b, s, rfl, hn, HSM.out, HBD.out, by omega, ?_, ?_⟩
    · exact sd_of_own (own_setCell (own_setCell HO12.out (fun e => by have := (HO12.out.lt _ e).1; simp only at *; omega) _) (fun e => by have := (HO12.out.lt _ e).1; simp only at *; omega) _) (fun d hd => small_ok (HSM.out d hd))
    · exact ((HB.out.grown HG12.out HB.out.size (fun k hk => by cases hk; omega)).setCell (Nat.le_refl _) _).setCell (Nat.le_refl _) _
end Go.Proofs.YtpfdghbjagdhfaaDoor
