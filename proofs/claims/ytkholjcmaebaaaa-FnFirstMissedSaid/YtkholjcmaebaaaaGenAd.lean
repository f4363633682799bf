import Derived.Test.YtkholjcmaebaaaaGenAr
import Derived.Test.YtkholjcmaebaaaaGenG
namespace Go.Proofs.Ytkholjcmaebaaaa
open Go.RowKit
set_option linter.unusedVariables false
set_option linter.unusedSimpArgs false
set_option maxRecDepth 100000

/-- A drawn class and a list of arms. -/
def DrawFR (w : World) (e : Ending) (w' : World) : Prop :=
  ∃ (A : Option Addr) (c : Nat) (ds : List D) (b : Int) (As : Option Addr) (cs : Nat) (rs : List Ar), e = .returned (.tuple #[.agg #[.slice A ds.length c, .int .i64 b], .slice As rs.length cs]) ∧ ds.length ≤ 13 ∧ (∀ d ∈ ds, d.small) ∧ (-1 ≤ b ∧ b ≤ 4) ∧ rs.length ≤ 7 ∧ (∀ a ∈ rs, a.small) ∧ w'.ownsRow w.heap.size 94 2 (.slice A ds.length c) ds.length (flat ds) ∧ w'.ownsRow w.heap.size 40 2 (.slice As rs.length cs) rs.length (flatA rs) ∧ Below w.heap.size w w'
def DrawFRs (w : World) (e : Ending) (w' : World) : Prop :=
  ∃ (A : Option Addr) (c : Nat) (ds : List D) (b : Int) (As : Option Addr) (cs : Nat) (rs : List Ar), e = .returned (.tuple #[.agg #[.slice A ds.length c, .int .i64 b], .slice As rs.length cs]) ∧ ds.length ≤ 13 ∧ (∀ d ∈ ds, d.small) ∧ (-1 ≤ b ∧ b ≤ 4) ∧ rs.length ≤ 7 ∧ (∀ a ∈ rs, a.small) ∧ SD w' w'.heap.size A ds.length c ds ∧ SA w' w'.heap.size As rs.length cs rs ∧ Below w.heap.size w w'
/-- .. and a number. -/
def DrawFRN (w : World) (e : Ending) (w' : World) : Prop :=
  ∃ (A : Option Addr) (c : Nat) (ds : List D) (b : Int) (As : Option Addr) (cs : Nat) (rs : List Ar) (x : Int), e = .returned (.tuple #[.agg #[.slice A ds.length c, .int .i64 b], .slice As rs.length cs, .int .i64 x]) ∧ ds.length ≤ 13 ∧ (∀ d ∈ ds, d.small) ∧ (-1 ≤ b ∧ b ≤ 4) ∧ rs.length ≤ 7 ∧ (∀ a ∈ rs, a.small) ∧ (-1 ≤ x ∧ x ≤ 4096) ∧ SD w' w'.heap.size A ds.length c ds ∧ SA w' w'.heap.size As rs.length cs rs ∧ Below w.heap.size w w'
theorem drawFR_s {w w' : World} {e : Ending} (h : DrawFR w e w') : DrawFRs w e w' := by
  obtain ⟨A, c, ds, b, As, cs, rs, h1, h2, h3, h4, h5, h6, h7, h8, h9⟩ := h
  exact ⟨A, c, ds, b, As, cs, rs, h1, h2, h3, h4, h5, h6, sd_of_own h7 (fun d hd => small_ok (h3 d hd)), sa_of_own h8 (fun a ha => Ar.small_ok (h6 a ha)), h9⟩
set_option maxHeartbeats 8000000 in
theorem drawFirstMissed_any (A : Option Addr) (n c : Nat) (zs : List Int) (w : World) (h : SB w w.heap.size A n c zs) :
    Calls Try.prog 25 #[.slice A n c] w (DrawFR w) := by
  have HS := Lib.hid h
  clear h
  go_enter Try.func25, Try.ntmps25
  go_wp2_with fail
  refine (newReader_any A n c zs _ (HS.out.allocF _)).mono ?_
  rintro e w1 ⟨R, A1, cb, z1, rfl, hR, hr, hb⟩
  have hwR : w.heap.size ≠ R := by simp at hR; omega
  have HC1 : Hid (C2 w1 w.heap.size (.slice none 0 0) (.int .i64 0)) := Lib.hid ((c2New _ _ _ _).below hb)
  have HB : Hid (Below w.heap.size w w1) := Lib.hid (((Below.refl _ _).alloc (Nat.le_refl _) _).trans (hb.mono (by simp)))
  have HR1 := Lib.hid hr
  have hRl : w.heap.size + 1 ≤ R := by simpa using hR
  have hR1 := HR1.out.lt
  clear hr hb hR
  go_wp2_with fail
  refine (someFlag_any R _ A1 cb z1 0 _ HR1.out (by omega)).mono ?_
  rintro e w2 ⟨A', c', ds, b, p', rfl, hn, hsm, hbd, hown, hp', hg, hr⟩
  have HC2 := Lib.hid (HC1.out.grown hg (by simpa using hwR))
  have HG2 : Hid (w1.grownBy w2 (some R)) := Lib.hid hg
  have HO2 := Lib.hid hown
  have HSM := Lib.hid hsm
  have HOK : Hid (∀ d ∈ ds, d.ok) := Lib.hid fun d hd => small_ok (hsm d hd)
  have HBD := Lib.hid hbd
  have HR2 := Lib.hid hr
  have hz2 : w1.heap.size ≤ w2.heap.size := hg.size
  clear hg hr hown hsm hbd HC1 HR1
  obtain ⟨w3, hw⟩ : ∃ W : World, W = w2.alloc (.cells #[.slice A' ds.length c', .int .i64 b] 25) := ⟨_, rfl⟩
  have hb : Below w2.heap.size w2 w3 := by rw [hw]; exact (Below.refl _ _).alloc (Nat.le_refl _) _
  have hz3 : w2.heap.size + 1 ≤ w3.heap.size := by rw [hw]; simp
  have HD3 : Hid (C2 w3 w2.heap.size (.slice A' ds.length c') (.int .i64 b)) := Lib.hid (by rw [hw]; exact c2New _ _ _ _)
  have HC3 := Lib.hid (HC2.out.below hb)
  have HO3 := Lib.hid (own_below HO2.out hb)
  have HG3 : Hid (w1.grownBy w3 (some R)) := Lib.hid (HG2.out.trans (grown_of_below hb _))
  have HR3 := Lib.hid (HR2.out.below hb)
  have HW := Lib.hid hw.symm
  have hGR : w2.heap.size ≠ R := by omega
  have hGw : w2.heap.size ≠ w.heap.size := by omega
  have hGw' : w.heap.size ≠ w2.heap.size := by omega
  clear hb hw HC2 HO2 HG2 HR2
  go_wp2_with fail
  rw [HW.out]
  clear HW
  obtain ⟨d0, d1, _, _⟩ := id HD3.out
  generalize hG : w2.heap.size = G at *
  clear hG
  go_region_held3 (fun w' => w'.cell? ⟨G, 0, none⟩ = some (.slice A' ds.length c') ∧ w'.cell? ⟨G, 1, none⟩ = some (.int .i64 b)) (first | exact ⟨d0, d1⟩ | exact ⟨(World.cell?_setCell_other _ _ _ _ (by intro e; injection e with e1 e2; omega)).trans d0, (World.cell?_setCell_other _ _ _ _ (by intro e; injection e with e1 e2; omega)).trans d1⟩ | exact ⟨(World.cell?_setCell_other _ _ _ _ (by intro e; injection e with e1 e2; omega)).trans ((World.cell?_setCell_other _ _ _ _ (by intro e; injection e with e1 e2; omega)).trans d0), (World.cell?_setCell_other _ _ _ _ (by intro e; injection e with e1 e2; omega)).trans ((World.cell?_setCell_other _ _ _ _ (by intro e; injection e with e1 e2; omega)).trans d1)⟩ | exact ⟨x0, x1⟩ | exact ⟨(World.cell?_setCell_other _ _ _ _ (by intro e; injection e with e1 e2; omega)).trans x0, (World.cell?_setCell_other _ _ _ _ (by intro e; injection e with e1 e2; omega)).trans x1⟩ | exact ⟨(World.cell?_setCell_other _ _ _ _ (by intro e; injection e with e1 e2; omega)).trans ((World.cell?_setCell_other _ _ _ _ (by intro e; injection e with e1 e2; omega)).trans x0), (World.cell?_setCell_other _ _ _ _ (by intro e; injection e with e1 e2; omega)).trans ((World.cell?_setCell_other _ _ _ _ (by intro e; injection e with e1 e2; omega)).trans x1)⟩)
    (first
      | (go_at_call 87; refine (someArms_any R _ A1 cb z1 p' ds b A' ds.length c' w1.heap.size _ (HR3.out.drewN 1) (by omega) (own_below HO3.out (below_drewN (Below.refl _ _) 1)) HSM.out (by omega)).mono ?_; rintro e w4 ⟨As, cs, rs, p4, rfl, hrl, hrs, hro, hp4, hg, hr⟩; replace hg : w3.grownBy w4 (some R) := ⟨hg.os, hg.tape, hg.output, hg.size, hg.block⟩; have HC4 := Lib.hid (HC3.out.grown hg (by simpa using hwR)); have HD4 := Lib.hid (HD3.out.grown hg (by simpa using hGR)); have HO4 := Lib.hid (HO3.out.kept hg (own_neR HO3.out (by omega))); have HA4 : Hid (w4.ownsRow w3.heap.size 40 2 (.slice As rs.length cs) rs.length (flatA rs)) := Lib.hid hro; have HG4 : Hid (w1.grownBy w4 (some R)) := Lib.hid (HG3.out.trans hg); have HR4 := Lib.hid hr; have hz4 : w3.heap.size ≤ w4.heap.size := hg.size; have x0 := HD4.out.c0; have x1 := HD4.out.c1; have y0 := HC4.out.c0; have y1 := HC4.out.c1; have fz0 := HC4.out.f0; have fz1 := HC4.out.f1))
  go_wp2
  refine bodyPost_ret (v := .tuple #[.agg #[.slice A' ds.length c', .int .i64 b], .slice As rs.length cs]) (by simp [results, Try.results25, go_sem, y0, y1]) rfl ⟨A', c', ds, b, As, cs, rs,  rfl, hn, HSM.out, HBD.out, hrl, hrs,  ?_, ?_, ?_⟩
  · exact own_base (own_setCell (own_setCell HO4.out (fun e => by have := (HO4.out.lt _ e).1; simp only at *; omega) _) (fun e => by have := (HO4.out.lt _ e).1; simp only at *; omega) _) (by omega)
  · exact own_base (own_setCell (own_setCell HA4.out (fun e => by have := (HA4.out.lt _ e).1; simp only at *; omega) _) (fun e => by have := (HA4.out.lt _ e).1; simp only at *; omega) _) (by omega)
  · exact ((HB.out.grown HG4.out HB.out.size (fun k hk => by cases hk; omega)).setCell (Nat.le_refl _) _).setCell (Nat.le_refl _) _
set_option maxHeartbeats 8000000 in
theorem drawFirstArm_any (A : Option Addr) (n c : Nat) (zs : List Int) (w : World) (h : SB w w.heap.size A n c zs) :
    Calls Try.prog 21 #[.slice A n c] w (DrawFRN w) := by
  have HS := Lib.hid h
  clear h
  go_enter Try.func21, Try.ntmps21
  go_wp2_with fail
  refine (newReader_any A n c zs _ (HS.out.allocF _)).mono ?_
  rintro e w1 ⟨R, A1, cb, z1, rfl, hR, hr, hb⟩
  have hwR : w.heap.size ≠ R := by simp at hR; omega
  have HC1 : Hid (C2 w1 w.heap.size (.slice none 0 0) (.int .i64 0)) := Lib.hid ((c2New _ _ _ _).below hb)
  have HB : Hid (Below w.heap.size w w1) := Lib.hid (((Below.refl _ _).alloc (Nat.le_refl _) _).trans (hb.mono (by simp)))
  have HR1 := Lib.hid hr
  have hRl : w.heap.size + 1 ≤ R := by simpa using hR
  have hR1 := HR1.out.lt
  clear hr hb hR
  go_wp2_with fail
  refine (someFlag_any R _ A1 cb z1 0 _ HR1.out (by omega)).mono ?_
  rintro e w2 ⟨A', c', ds, b, p', rfl, hn, hsm, hbd, hown, hp', hg, hr⟩
  have HC2 := Lib.hid (HC1.out.grown hg (by simpa using hwR))
  have HG2 : Hid (w1.grownBy w2 (some R)) := Lib.hid hg
  have HO2 := Lib.hid hown
  have HSM := Lib.hid hsm
  have HOK : Hid (∀ d ∈ ds, d.ok) := Lib.hid fun d hd => small_ok (hsm d hd)
  have HBD := Lib.hid hbd
  have HR2 := Lib.hid hr
  have hz2 : w1.heap.size ≤ w2.heap.size := hg.size
  clear hg hr hown hsm hbd HC1 HR1
  obtain ⟨w3, hw⟩ : ∃ W : World, W = w2.alloc (.cells #[.slice A' ds.length c', .int .i64 b] 25) := ⟨_, rfl⟩
  have hb : Below w2.heap.size w2 w3 := by rw [hw]; exact (Below.refl _ _).alloc (Nat.le_refl _) _
  have hz3 : w2.heap.size + 1 ≤ w3.heap.size := by rw [hw]; simp
  have HD3 : Hid (C2 w3 w2.heap.size (.slice A' ds.length c') (.int .i64 b)) := Lib.hid (by rw [hw]; exact c2New _ _ _ _)
  have HC3 := Lib.hid (HC2.out.below hb)
  have HO3 := Lib.hid (own_below HO2.out hb)
  have HG3 : Hid (w1.grownBy w3 (some R)) := Lib.hid (HG2.out.trans (grown_of_below hb _))
  have HR3 := Lib.hid (HR2.out.below hb)
  have HW := Lib.hid hw.symm
  have hGR : w2.heap.size ≠ R := by omega
  have hGw : w2.heap.size ≠ w.heap.size := by omega
  have hGw' : w.heap.size ≠ w2.heap.size := by omega
  clear hb hw HC2 HO2 HG2 HR2
  go_wp2_with fail
  rw [HW.out]
  clear HW
  obtain ⟨d0, d1, _, _⟩ := id HD3.out
  generalize hG : w2.heap.size = G at *
  clear hG
  go_region_held3 (fun w' => w'.cell? ⟨G, 0, none⟩ = some (.slice A' ds.length c') ∧ w'.cell? ⟨G, 1, none⟩ = some (.int .i64 b)) (first | exact ⟨d0, d1⟩ | exact ⟨(World.cell?_setCell_other _ _ _ _ (by intro e; injection e with e1 e2; omega)).trans d0, (World.cell?_setCell_other _ _ _ _ (by intro e; injection e with e1 e2; omega)).trans d1⟩ | exact ⟨(World.cell?_setCell_other _ _ _ _ (by intro e; injection e with e1 e2; omega)).trans ((World.cell?_setCell_other _ _ _ _ (by intro e; injection e with e1 e2; omega)).trans d0), (World.cell?_setCell_other _ _ _ _ (by intro e; injection e with e1 e2; omega)).trans ((World.cell?_setCell_other _ _ _ _ (by intro e; injection e with e1 e2; omega)).trans d1)⟩ | exact ⟨x0, x1⟩ | exact ⟨(World.cell?_setCell_other _ _ _ _ (by intro e; injection e with e1 e2; omega)).trans x0, (World.cell?_setCell_other _ _ _ _ (by intro e; injection e with e1 e2; omega)).trans x1⟩ | exact ⟨(World.cell?_setCell_other _ _ _ _ (by intro e; injection e with e1 e2; omega)).trans ((World.cell?_setCell_other _ _ _ _ (by intro e; injection e with e1 e2; omega)).trans x0), (World.cell?_setCell_other _ _ _ _ (by intro e; injection e with e1 e2; omega)).trans ((World.cell?_setCell_other _ _ _ _ (by intro e; injection e with e1 e2; omega)).trans x1)⟩ | exact ⟨u0, u1⟩ | exact ⟨(World.cell?_setCell_other _ _ _ _ (by intro e; injection e with e1 e2; omega)).trans u0, (World.cell?_setCell_other _ _ _ _ (by intro e; injection e with e1 e2; omega)).trans u1⟩ | exact ⟨(World.cell?_setCell_other _ _ _ _ (by intro e; injection e with e1 e2; omega)).trans ((World.cell?_setCell_other _ _ _ _ (by intro e; injection e with e1 e2; omega)).trans u0), (World.cell?_setCell_other _ _ _ _ (by intro e; injection e with e1 e2; omega)).trans ((World.cell?_setCell_other _ _ _ _ (by intro e; injection e with e1 e2; omega)).trans u1)⟩)
    (first
      | (go_at_call 87; refine (someArms_any R _ A1 cb z1 p' ds b A' ds.length c' w1.heap.size _ (HR3.out.drewN 1) (by omega) (own_below HO3.out (below_drewN (Below.refl _ _) 1)) HSM.out (by omega)).mono ?_; rintro e w4 ⟨As, cs, rs, p4, rfl, hrl, hrs, hro, hp4, hg, hr⟩; replace hg : w3.grownBy w4 (some R) := ⟨hg.os, hg.tape, hg.output, hg.size, hg.block⟩; have HC4 := Lib.hid (HC3.out.grown hg (by simpa using hwR)); have HD4 := Lib.hid (HD3.out.grown hg (by simpa using hGR)); have HO4 := Lib.hid (HO3.out.kept hg (own_neR HO3.out (by omega))); have HA4 : Hid (w4.ownsRow w3.heap.size 40 2 (.slice As rs.length cs) rs.length (flatA rs)) := Lib.hid hro; have HG4 : Hid (w1.grownBy w4 (some R)) := Lib.hid (HG3.out.trans hg); have HR4 := Lib.hid hr; have hz4 : w3.heap.size ≤ w4.heap.size := hg.size; have x0 := HD4.out.c0; have x1 := HD4.out.c1; have y0 := HC4.out.c0; have y1 := HC4.out.c1; have fz0 := HC4.out.f0; have fz1 := HC4.out.f1)
      | (go_at_call 88; refine (aValue_any R _ A1 cb z1 p4 ds b A' ds.length c' w1.heap.size _ HR4.out (by omega) HO4.out HOK.out (by omega)).mono ?_; rintro e w5 ⟨x, p5, rfl, hx, hp5, hg5, hr5⟩; have HC5 := Lib.hid (HC4.out.grown hg5 (by simpa using hwR)); have HD5 := Lib.hid (HD4.out.grown hg5 (by simpa using hGR)); have HO5 := Lib.hid (HO4.out.kept hg5 (own_neR HO4.out (by omega))); have HA5 := Lib.hid (HA4.out.kept hg5 (own_neR HA4.out (by omega))); have HG5 : Hid (w1.grownBy w5 (some R)) := Lib.hid (HG4.out.trans hg5); have u0 := HD5.out.c0; have u1 := HD5.out.c1; have y0 := HC5.out.c0; have y1 := HC5.out.c1; have fz0 := HC5.out.f0; have fz1 := HC5.out.f1))
  go_wp2
  refine bodyPost_ret (v := .tuple #[.agg #[.slice A' ds.length c', .int .i64 b], .slice As rs.length cs, .int .i64 x]) (by simp [results, Try.results21, go_sem, y0, y1]) rfl ⟨A', c', ds, b, As, cs, rs, x, rfl, hn, HSM.out, HBD.out, hrl, hrs, ⟨by omega, by omega⟩, ?_, ?_, ?_⟩
  · exact sd_of_own (own_setCell (own_setCell HO5.out (fun e => by have := (HO5.out.lt _ e).1; simp only at *; omega) _) (fun e => by have := (HO5.out.lt _ e).1; simp only at *; omega) _) (fun d hd => small_ok (HSM.out d hd))
  · exact sa_of_own (own_setCell (own_setCell HA5.out (fun e => by have := (HA5.out.lt _ e).1; simp only at *; omega) _) (fun e => by have := (HA5.out.lt _ e).1; simp only at *; omega) _) (fun a ha => Ar.small_ok (hrs a ha))
  · exact ((HB.out.grown HG5.out HB.out.size (fun k hk => by cases hk; omega)).setCell (Nat.le_refl _) _).setCell (Nat.le_refl _) _
set_option maxHeartbeats 4000000 in
theorem drawDeadArms_any (A : Option Addr) (n c : Nat) (zs : List Int) (w : World) (h : SB w w.heap.size A n c zs) :
    Calls Try.prog 31 #[.slice A n c] w (DrawFR w) := by
  have HS := Lib.hid h
  clear h
  go_enter Try.func31, Try.ntmps31
  go_wp2_with fail
  refine (drawFirstMissed_any A n c zs _ (HS.out.allocF _)).mono ?_
  rintro e w1 ⟨A', c', ds, b, As, cs, rs, rfl, hn, hsm, hbd, hrl, hrs, hsd, hsa, hb⟩
  have HC1 : Hid (C2 w1 w.heap.size (.slice none 0 0) (.int .i64 0)) := Lib.hid ((c2New _ _ _ _).below hb)
  have HB : Hid (Below w.heap.size w w1) := Lib.hid (((Below.refl _ _).alloc (Nat.le_refl _) _).trans (hb.mono (by simp)))
  have HS1 := Lib.hid hsd
  have HA1 := Lib.hid hsa
  clear hb hsd hsa
  obtain ⟨y0, y1, z0, z1⟩ := HC1.out
  go_wp2
  refine bodyPost_ret (v := .tuple #[.agg #[.slice A' ds.length c', .int .i64 b], .slice As rs.length cs]) (by simp [results, Try.results31, go_sem, y0, y1]) rfl ⟨A', c', ds, b, As, cs, rs, rfl, hn, hsm, hbd, hrl, hrs, ?_, ?_, ?_⟩
  · exact own_base (own_setCell (own_setCell HS1.out (fun e => by have := (HS1.out.lt _ e).1; simp at this; omega) _) (fun e => by have := (HS1.out.lt _ e).1; simp at this; omega) _) (by simp)
  · exact own_base (own_setCell (own_setCell HA1.out (fun e => by have := (HA1.out.lt _ e).1; simp at this; omega) _) (fun e => by have := (HA1.out.lt _ e).1; simp at this; omega) _) (by simp)
  · exact (HB.out.setCell (Nat.le_refl _) _).setCell (Nat.le_refl _) _
theorem drawFirstMissed_s (A : Option Addr) (n c : Nat) (zs : List Int) (w : World) (h : SB w w.heap.size A n c zs) : Calls Try.prog 25 #[.slice A n c] w (DrawFRs w) := (drawFirstMissed_any A n c zs w h).mono fun _ _ h => drawFR_s h
theorem drawDeadArms_s (A : Option Addr) (n c : Nat) (zs : List Int) (w : World) (h : SB w w.heap.size A n c zs) : Calls Try.prog 31 #[.slice A n c] w (DrawFRs w) := (drawDeadArms_any A n c zs w h).mono fun _ _ h => drawFR_s h
end Go.Proofs.Ytkholjcmaebaaaa
