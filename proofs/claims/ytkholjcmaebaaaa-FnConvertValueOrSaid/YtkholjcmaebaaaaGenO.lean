import Derived.Test.YtkholjcmaebaaaaGenW
import Derived.Test.YtkholjcmaebaaaaEdit2
import Derived.Test.YtkholjcmaebaaaaBaseB
import Derived.Deep.DeepCutAuto
namespace Go.Proofs.Ytkholjcmaebaaaa
open Go.RowKit
set_option linter.unusedVariables false
set_option linter.unusedSimpArgs false
set_option maxRecDepth 100000

/-- What valueIn makes, with its reader. -/
def GenFR (R B : Nat) (A : Option Addr) (cb : Nat) (zs : List Int) (p : Nat) (w : World) (e : Ending) (w' : World) : Prop :=
  ∃ (A' : Option Addr) (c : Nat) (ds : List D) (b x : Int) (p' : Nat), e = .returned (.tuple #[.agg #[.slice A' ds.length c, .int .i64 b], .int .i64 x]) ∧ ds.length ≤ 13 ∧ (∀ d ∈ ds, d.small) ∧ (-1 ≤ b ∧ b ≤ 4) ∧ (-1 ≤ x ∧ x ≤ 4096) ∧
    w'.ownsRow w.heap.size 94 2 (.slice A' ds.length c) ds.length (flat ds) ∧ p' ≤ p + 200 ∧ w.grownBy w' (some R) ∧ Rdr w' R B A cb zs p'
set_option maxHeartbeats 8000000 in
theorem valueR_any (R B : Nat) (A : Option Addr) (cb : Nat) (zs : List Int) (p : Nat) (w : World) (h : Rdr w R B A cb zs p) (hp : p + 200 ≤ 100000) :
    Calls Try.prog 69 #[.pointer (some ⟨R, 0, none⟩)] w (GenFR R B A cb zs p w) := by
  have hRw := h.lt
  have HR := Lib.hid h
  clear h
  obtain ⟨w1, hw⟩ : ∃ W : World, W = w.alloc (.cells #[.slice none 0 0, .int .i64 0] 25) := ⟨_, rfl⟩
  have hb : Below w.heap.size w w1 := by rw [hw]; exact (Below.refl _ _).alloc (Nat.le_refl _) _
  have hz1 : w.heap.size + 1 ≤ w1.heap.size := by rw [hw]; simp
  have HC1 : Hid (C2 w1 w.heap.size (.slice none 0 0) (.int .i64 0)) := Lib.hid (by rw [hw]; exact c2New _ _ _ _)
  have HR1 := Lib.hid (HR.out.below hb)
  have HG1 : Hid (w.grownBy w1 (some R)) := Lib.hid (grown_of_below hb _)
  have HW := Lib.hid hw.symm
  have hwR : w.heap.size ≠ R := by omega
  clear hb hw HR
  go_enter Try.func69, Try.ntmps69
  go_wp2_with fail
  rw [HW.out]
  clear HW
  refine (someFlag_any R B A cb zs p _ HR1.out (by omega)).mono ?_
  rintro e w2 ⟨A', c, ds, b, p', rfl, hn, hsm, hbd, hown, hp', hg, hr⟩
  have hz2 : w1.heap.size ≤ w2.heap.size := hg.size
  have HC2 := Lib.hid (HC1.out.grown hg (by simpa using hwR))
  have HO2 := Lib.hid (own_base hown (show w.heap.size + 1 ≤ _ by omega))
  have HG2 : Hid (w.grownBy w2 (some R)) := Lib.hid (HG1.out.trans hg)
  have HR2 := Lib.hid hr
  have HSM := Lib.hid hsm
  have HOK : Hid (∀ d ∈ ds, d.ok) := Lib.hid fun d hd => small_ok (hsm d hd)
  have HBD := Lib.hid hbd
  clear hg hown hr hsm hbd HC1 HG1 HR1
  obtain ⟨w3, hw⟩ : ∃ W : World, W = w2.alloc (.cells #[.slice A' ds.length c, .int .i64 b] 25) := ⟨_, rfl⟩
  have hb : Below w2.heap.size w2 w3 := by rw [hw]; exact (Below.refl _ _).alloc (Nat.le_refl _) _
  have hz3 : w2.heap.size + 1 ≤ w3.heap.size := by rw [hw]; simp
  have HD3 : Hid (C2 w3 w2.heap.size (.slice A' ds.length c) (.int .i64 b)) := Lib.hid (by rw [hw]; exact c2New _ _ _ _)
  have HC3 := Lib.hid (HC2.out.below hb)
  have HO3 := Lib.hid (own_below HO2.out hb)
  have HG3 : Hid (w.grownBy w3 (some R)) := Lib.hid (HG2.out.trans (grown_of_below hb _))
  have HR3 := Lib.hid (HR2.out.below hb)
  have HW := Lib.hid hw.symm
  have hGR : w2.heap.size ≠ R := by omega
  have hGw : w2.heap.size ≠ w.heap.size := by omega
  have hGw' : w.heap.size ≠ w2.heap.size := by omega
  clear hb hw HC2 HO2 HG2 HR2
  go_wp2_with fail
  rw [HW.out]
  clear HW
  obtain ⟨d0, d1, _, _⟩ := HD3.out
  generalize hG : w2.heap.size = G at *
  clear hG
  go_region_held3 (fun w' => w'.cell? ⟨G, 0, none⟩ = some (.slice A' ds.length c) ∧ w'.cell? ⟨G, 1, none⟩ = some (.int .i64 b)) (first | go_keep | exact ⟨d0, d1⟩ | exact ⟨x0, x1⟩)
    (first | (go_at_call 88; refine (aValue_any R B A cb zs p' ds b A' ds.length c (w.heap.size + 1) _ (HR3.out.drewN 1) (by omega) (own_below HO3.out (below_drewN (Below.refl _ _) 1)) HOK.out (by omega)).mono ?_; rintro e w4 ⟨x, p4, rfl, hx, hp4, hg, hr⟩; replace hg : w3.grownBy w4 (some R) := ⟨hg.os, hg.tape, hg.output, hg.size, hg.block⟩; have HC4 := Lib.hid (HC3.out.grown hg (by simpa using hwR)); have HD4 := Lib.hid (HD3.out.grown hg (by simpa using hGR)); have x0 := HD4.out.c0; have x1 := HD4.out.c1; have y0 := HC4.out.c0; have y1 := HC4.out.c1; have z0 := HC4.out.f0; have z1 := HC4.out.f1))
  have HO4 := Lib.hid (HO3.out.kept hg (own_neR HO3.out (by omega)))
  have HG4 : Hid (w.grownBy w4 (some R)) := Lib.hid (HG3.out.trans hg)
  have HR4 := Lib.hid hr
  clear hg hr
  go_wp2
  refine bodyPost_ret (v := .tuple #[.agg #[.slice A' ds.length c, .int .i64 b], .int .i64 x]) (by simp [results, Try.results69, go_sem, y0, y1]) rfl ⟨A', c, ds, b, _, p4, rfl, hn, HSM.out, HBD.out, ⟨by omega, by omega⟩, ?_, by omega, ?_, (HR4.out.set (by show R < w.heap.size; omega) _).set (by show R < w.heap.size; omega) _⟩
  · exact own_setCell (own_setCell (own_base HO4.out (by omega)) (fun e => by have := (HO4.out.lt _ e).1; simp only at *; omega) _) (fun e => by have := (HO4.out.lt _ e).1; simp only at *; omega) _
  · exact grown_set (grown_set HG4.out (Nat.le_refl _) _) (Nat.le_refl _) _
theorem val_own {w : World} {base n c g : Nat} {t : TypeId} {gs : List D} (h : w.ownsRow base t 2 (.slice (some ⟨g, 0, none⟩) n c) n (flat gs)) (hs : ∀ d ∈ gs, d.small) {k : Nat} (hk : k < n) : ∃ v : Int, w.cell? ⟨g, k * 2 + 1, none⟩ = some (.int .i64 v) ∧ -5000 ≤ v ∧ v ≤ 5000 := by
  have hl : gs.length = n := by have := h.1; rw [flat_length] at this; omega
  refine ⟨gs[k].val, ?_, (hs _ (List.getElem_mem (by omega))).2.1, (hs _ (List.getElem_mem (by omega))).2.2⟩
  rw [h.cellAt (k * 2 + 1) (by omega)]; exact (flat_get gs k (by omega)).2
theorem ownLowO {w w' : World} {base L : Nat} {e : TypeId} {sz : Nat} {v : Value} {n : Nat} {xs : List Value} (h : w.ownsRow base e sz v n xs) (hb : Below L w w') (hlt : ∀ q, v.ownBlock = some q → q < L) : w'.ownsRow base e sz v n xs := by
  refine ⟨h.1, ?_⟩
  rcases h.2 with hn | ⟨g, cap, cur, rfl, h1, hg, rest⟩
  · exact .inl hn
  · exact .inr ⟨g, cap, cur, rfl, h1, (hb.block g (hlt g rfl)).trans hg, rest⟩
/-- Two drawn classes and a value. -/
def DrawFFN (w : World) (e : Ending) (w' : World) : Prop :=
  ∃ (Aa : Option Addr) (ca : Nat) (ds : List D) (ba : Int) (Ab : Option Addr) (m cb : Nat) (es : List D) (bb x : Int), e = .returned (.tuple #[.agg #[.slice Aa ds.length ca, .int .i64 ba], .agg #[.slice Ab m cb, .int .i64 bb], .int .i64 x]) ∧ ds.length ≤ 13 ∧ m ≤ 13 ∧ (∀ d ∈ ds, d.small) ∧ (∀ d ∈ es, d.small) ∧ (-1 ≤ ba ∧ ba ≤ 4) ∧ (-1 ≤ bb ∧ bb ≤ 4) ∧ (-1 ≤ x ∧ x ≤ 4096) ∧ SD w' w'.heap.size Aa ds.length ca ds ∧ SD w' w'.heap.size Ab m cb es ∧ Below w.heap.size w w'
set_option maxHeartbeats 16000000 in
theorem drawConvertValue_any (A : Option Addr) (n c : Nat) (zs : List Int) (w : World) (h : SB w w.heap.size A n c zs) :
    Calls Try.prog 15 #[.slice A n c] w (DrawFFN w) := by
  have HS := Lib.hid h
  clear h
  obtain ⟨w0, hw⟩ : ∃ W : World, W = ((w.alloc (.cells #[.slice none 0 0, .int .i64 0] 25)).alloc (.cells #[.slice none 0 0, .int .i64 0] 25)) := ⟨_, rfl⟩
  have hb : Below w.heap.size w w0 := by rw [hw]; exact (((Below.refl _ _).alloc (by first | exact Nat.le_refl _ | (simp; done) | (simp; omega)) _).alloc (by first | exact Nat.le_refl _ | (simp; done) | (simp; omega)) _)
  have hz0 : w0.heap.size = w.heap.size + 2 := by rw [hw]; simp
  have X0_0 : Hid (C2 w0 w.heap.size (.slice none 0 0) (.int .i64 0)) := Lib.hid (by rw [hw]; exact (c2New _ _ _ _).below ((Below.refl _ _).alloc (Nat.le_refl _) _))
  have X1_0 : Hid (C2 w0 (w.heap.size + 1) (.slice none 0 0) (.int .i64 0)) := Lib.hid (by rw [hw]; exact c2New' _ _ _ _ _)
  have HSB : Hid (SB w0 w0.heap.size A n c zs) := Lib.hid (by rw [hw]; exact (HS.out.allocF _).allocF _)
  have HW0 : Hid (((w.alloc (.cells #[.slice none 0 0, .int .i64 0] 25)).alloc (.cells #[.slice none 0 0, .int .i64 0] 25)) = w0) := Lib.hid hw.symm
  have HB0 := Lib.hid hb
  clear hb hw HS
  go_enter Try.func15, Try.ntmps15
  go_wp2_with fail
  rw [HW0.out]
  refine (newReader_any A n c zs _ HSB.out).mono ?_
  rintro e w1 ⟨R, A1, cb, z1, rfl, hR, hr, hb⟩
  have hR2 : w.heap.size + 2 ≤ R := by omega
  have X0_1 := Lib.hid (X0_0.out.below hb)
  have X1_1 := Lib.hid (X1_0.out.below hb)
  have HB1 : Hid (Below w.heap.size w w1) := Lib.hid (HB0.out.trans (hb.mono HB0.out.size))
  have HR_1 := Lib.hid hr
  have hz1 : w.heap.size + 2 ≤ w1.heap.size := by have := hb.size; omega
  have hRl : R < w1.heap.size := hr.lt
  have HG_1 : Hid (w1.grownBy w1 (some R)) := Lib.hid (grown_of_below (Below.refl w1.heap.size w1) _)
  clear hb hr X0_0 X1_0 HSB HW0 HB0 hR hz0
  go_wp2_with fail
  refine (valueR_any R _ A1 cb z1 0 _ HR_1.out (by omega)).mono ?_
  rintro e w2 ⟨Aa, ca, ds, ba, x, p2, rfl, hna, hsa, hba, hxx, hoa, hp2, hg, hr⟩
  have HD_2 := Lib.hid hoa
  have HDC1 : Hid (∀ q, (Value.slice Aa ds.length ca).ownBlock = some q → q < w2.heap.size) := Lib.hid (fun q hq => (hoa.lt q hq).2)
  have HSa := Lib.hid hsa
  have HBa := Lib.hid hba
  have HX : Hid (-1 ≤ x ∧ x ≤ 4096) := Lib.hid hxx
  clear hoa hsa hba hxx
  have X0_2 := Lib.hid (X0_1.out.grown hg (fun e => by injection e with e; omega))
  have X1_2 := Lib.hid (X1_1.out.grown hg (fun e => by injection e with e; omega))
  have HG_2 : Hid (w1.grownBy w2 (some R)) := Lib.hid (HG_1.out.trans hg)
  have HR_2 := Lib.hid hr
  have hz2 : w1.heap.size ≤ w2.heap.size := hg.size
  clear hg hr
  clear X0_1 X1_1 HG_1 HR_1
  obtain ⟨w3, hw⟩ : ∃ W : World, W = (w2.alloc (.cells #[.slice Aa ds.length ca, .int .i64 ba] 25)) := ⟨_, rfl⟩
  have hb : Below w2.heap.size w2 w3 := by rw [hw]; exact (Below.refl _ _).alloc (Nat.le_refl _) _
  have ht3 : w3.heap.size = w2.heap.size + 1 := by rw [hw]; simp
  have PA_3 : Hid (C2 w3 w2.heap.size (.slice Aa ds.length ca) (.int .i64 ba)) := Lib.hid (by rw [hw]; exact c2New _ _ _ _)
  have HW3 : Hid ((w2.alloc (.cells #[.slice Aa ds.length ca, .int .i64 ba] 25)) = w3) := Lib.hid hw.symm
  clear hw
  have X0_3 := Lib.hid (X0_2.out.below hb)
  have X1_3 := Lib.hid (X1_2.out.below hb)
  have HD_3 := Lib.hid (own_below HD_2.out hb)
  have HG_3 : Hid (w1.grownBy w3 (some R)) := Lib.hid (grown_below HG_2.out (hb.mono HG_2.out.size))
  have HR_3 := Lib.hid (HR_2.out.below hb)
  have hz3 : w2.heap.size ≤ w3.heap.size := hb.size
  clear hb
  clear X0_2 X1_2 HD_2 HG_2 HR_2
  go_wp2_with fail
  rw [HW3.out]
  clear HW3
  refine (someFlag_any R _ A1 cb z1 p2 _ HR_3.out (by omega)).mono ?_
  rintro e w4 ⟨Ab, cc, es, bb, p4, rfl, hne, hse, hbb, hob, hp4, hg, hr⟩
  have HE_4 := Lib.hid (own_base hob (show w2.heap.size + 1 ≤ _ by omega))
  have HSb := Lib.hid hse
  have HBb := Lib.hid hbb
  clear hob hse hbb
  have X0_4 := Lib.hid (X0_3.out.grown hg (fun e => by injection e with e; omega))
  have X1_4 := Lib.hid (X1_3.out.grown hg (fun e => by injection e with e; omega))
  have HD_4 := Lib.hid (HD_3.out.kept hg (own_neR HD_3.out (by omega)))
  have PA_4 := Lib.hid (PA_3.out.grown hg (fun e => by injection e with e; omega))
  have HG_4 : Hid (w1.grownBy w4 (some R)) := Lib.hid (HG_3.out.trans hg)
  have HR_4 := Lib.hid hr
  have hz4 : w3.heap.size ≤ w4.heap.size := hg.size
  clear hg hr
  clear X0_3 X1_3 HD_3 PA_3 HG_3 HR_3
  obtain ⟨w5, hw⟩ : ∃ W : World, W = (w4.alloc (.cells #[.slice Ab es.length cc, .int .i64 bb] 25)) := ⟨_, rfl⟩
  have hb : Below w4.heap.size w4 w5 := by rw [hw]; exact (Below.refl _ _).alloc (Nat.le_refl _) _
  have ht5 : w5.heap.size = w4.heap.size + 1 := by rw [hw]; simp
  have PB_5 : Hid (C2 w5 w4.heap.size (.slice Ab es.length cc) (.int .i64 bb)) := Lib.hid (by rw [hw]; exact c2New _ _ _ _)
  have HW5 : Hid ((w4.alloc (.cells #[.slice Ab es.length cc, .int .i64 bb] 25)) = w5) := Lib.hid hw.symm
  clear hw
  have X0_5 := Lib.hid (X0_4.out.below hb)
  have X1_5 := Lib.hid (X1_4.out.below hb)
  have HD_5 := Lib.hid (own_below HD_4.out hb)
  have PA_5 := Lib.hid (PA_4.out.below hb)
  have HE_5 := Lib.hid (own_below HE_4.out hb)
  have HG_5 : Hid (w1.grownBy w5 (some R)) := Lib.hid (grown_below HG_4.out (hb.mono HG_4.out.size))
  have HR_5 := Lib.hid (HR_4.out.below hb)
  have hz5 : w4.heap.size ≤ w5.heap.size := hb.size
  clear hb
  clear X0_4 X1_4 HD_4 PA_4 HE_4 HG_4 HR_4
  have hd1 : ¬ w.heap.size + 1 = w.heap.size := by omega
  have hd2 : ¬ w.heap.size = w.heap.size + 1 := by omega
  go_wp2_with fail
  rw [HW5.out]
  clear HW5
  have g1 : w1.heap.size ≤ w2.heap.size := by omega
  have g2 : w2.heap.size < w4.heap.size := by omega
  have g3 : w4.heap.size < w5.heap.size := by omega
  clear ht3 ht5 hz2 hz3 hz4 hz5
  generalize w2.heap.size = GA at *
  generalize w4.heap.size = GB at *
  have n1 : GA ≠ w.heap.size := by omega
  have n2 : w.heap.size ≠ GA := by omega
  have n3 : GA ≠ w.heap.size + 1 := by omega
  have n4 : w.heap.size + 1 ≠ GA := by omega
  have n5 : GB ≠ w.heap.size := by omega
  have n6 : w.heap.size ≠ GB := by omega
  have n7 : GB ≠ w.heap.size + 1 := by omega
  have n8 : w.heap.size + 1 ≠ GB := by omega
  have n9 : GA ≠ GB := by omega
  refine (pick_any 2 R _ A1 cb z1 p4 _ HR_5.out (by omega) (by omega) (by omega)).mono ?_
  rintro e w6 ⟨r, rfl, r0, r1, hg, hr⟩
  have X0_6 := Lib.hid (X0_5.out.grown hg (fun e => by injection e with e; omega))
  have X1_6 := Lib.hid (X1_5.out.grown hg (fun e => by injection e with e; omega))
  have HD_6 := Lib.hid (HD_5.out.kept hg (own_neR HD_5.out (by omega)))
  have PA_6 := Lib.hid (PA_5.out.grown hg (fun e => by injection e with e; omega))
  have HE_6 := Lib.hid (HE_5.out.kept hg (own_neR HE_5.out (by omega)))
  have PB_6 := Lib.hid (PB_5.out.grown hg (fun e => by injection e with e; omega))
  have HG_6 : Hid (w1.grownBy w6 (some R)) := Lib.hid (HG_5.out.trans hg)
  have HR_6 := Lib.hid hr
  have hz6 : w5.heap.size ≤ w6.heap.size := hg.size
  clear hg hr
  clear X0_5 X1_5 HD_5 PA_5 HE_5 PB_5 HG_5 HR_5
  by_cases hr0 : r = 0
  · have z0 : (r == 0) = true := beq_iff_eq.2 hr0
    clear hr0 r0 r1
    obtain ⟨a0, a1, fa0, fa1⟩ := id PA_6.out
    have HSD6 := Lib.hid (sd_of_own HD_6.out (fun d hd => small_ok (HSa.out d hd)))
    go_wp2_with fail
    refine (copyDefs_n ds _ _ _ _ HSD6.out (by omega)).mono ?_
    rintro e w7 ⟨A7, c7, rfl, hown, hb⟩
    obtain ⟨GC, hGC⟩ : ∃ G, G = w6.heap.size := ⟨_, rfl⟩
    rw [← hGC] at hown
    have g4 : GB < GC := by omega
    have g5 : GC ≤ w7.heap.size := by have := hb.size; omega
    clear HE_6 hGC HSD6 a0 a1 fa0 fa1
    have HE_7 : Hid (w7.ownsRow GC 94 2 (.slice A7 ds.length c7) ds.length (flat ds)) := Lib.hid hown
    clear hown
    have X0_7 := Lib.hid (X0_6.out.below hb)
    have X1_7 := Lib.hid (X1_6.out.below hb)
    have HD_7 := Lib.hid (own_below HD_6.out hb)
    have PA_7 := Lib.hid (PA_6.out.below hb)
    have PB_7 := Lib.hid (PB_6.out.below hb)
    have HG_7 : Hid (w1.grownBy w7 (some R)) := Lib.hid (grown_below HG_6.out (hb.mono HG_6.out.size))
    have HR_7 := Lib.hid (HR_6.out.below hb)
    have hz7 : w6.heap.size ≤ w7.heap.size := hb.size
    clear hb
    clear X0_6 X1_6 HD_6 PA_6 PB_6 HG_6 HR_6
    go_wp2_with fail
    refine (pick_any 4 R _ A1 cb z1 (p4 + 1) _ HR_7.out (by omega) (by omega) (by omega)).mono ?_
    rintro e w8 ⟨u, rfl, u0, u1, hg, hr⟩
    have u2 := u1 (by omega)
    clear u1
    have X0_8 := Lib.hid (X0_7.out.grown hg (fun e => by injection e with e; omega))
    have X1_8 := Lib.hid (X1_7.out.grown hg (fun e => by injection e with e; omega))
    have HD_8 := Lib.hid (HD_7.out.kept hg (own_neR HD_7.out (by omega)))
    have PA_8 := Lib.hid (PA_7.out.grown hg (fun e => by injection e with e; omega))
    have HE_8 := Lib.hid (HE_7.out.kept hg (own_neR HE_7.out (by omega)))
    have PB_8 := Lib.hid (PB_7.out.grown hg (fun e => by injection e with e; omega))
    have HG_8 : Hid (w1.grownBy w8 (some R)) := Lib.hid (HG_7.out.trans hg)
    have HR_8 := Lib.hid hr
    have hz8 : w7.heap.size ≤ w8.heap.size := hg.size
    clear hg hr
    clear X0_7 X1_7 HD_7 PA_7 HE_7 PB_7 HG_7 HR_7
    obtain ⟨w9, hw⟩ : ∃ W : World, W = ((w8.setCell ⟨GB, 0, none⟩ (.slice A7 ds.length c7)).setCell ⟨GB, 1, none⟩ (.int .i64 u)) := ⟨_, rfl⟩
    have X0_9 : Hid (C2 w9 w.heap.size (.slice none 0 0) (.int .i64 0)) := Lib.hid (by rw [hw]; exact (X0_8.out.setO (by show GB ≠ w.heap.size; omega) _).setO (by show GB ≠ w.heap.size; omega) _)
    have X1_9 : Hid (C2 w9 (w.heap.size + 1) (.slice none 0 0) (.int .i64 0)) := Lib.hid (by rw [hw]; exact (X1_8.out.setO (by show GB ≠ (w.heap.size + 1); omega) _).setO (by show GB ≠ (w.heap.size + 1); omega) _)
    have PA_9 : Hid (C2 w9 GA (.slice Aa ds.length ca) (.int .i64 ba)) := Lib.hid (by rw [hw]; exact (PA_8.out.setO (by show GB ≠ GA; omega) _).setO (by show GB ≠ GA; omega) _)
    have PB_9 := Lib.hid ((PB_8.out.set0 (.slice A7 ds.length c7)).set1 (.int .i64 u))
    rw [← hw] at PB_9
    have HD_9 := Lib.hid (own_setCell (own_setCell HD_8.out (fun e => by have := HDC1.out _ e; simp only at this; omega) (.slice A7 ds.length c7) (p := ⟨GB, 0, none⟩)) (fun e => by have := HDC1.out _ e; simp only at this; omega) (.int .i64 u) (p := ⟨GB, 1, none⟩))
    rw [← hw] at HD_9
    have HE_9 := Lib.hid (own_setCell (own_setCell HE_8.out (fun e => by have := (HE_8.out.lt _ e).1; simp only at this; omega) (.slice A7 ds.length c7) (p := ⟨GB, 0, none⟩)) (fun e => by have := (HE_8.out.lt _ e).1; simp only at this; omega) (.int .i64 u) (p := ⟨GB, 1, none⟩))
    rw [← hw] at HE_9
    have HG_9 : Hid (w1.grownBy w9 (some R)) := Lib.hid (by rw [hw]; exact grown_set (grown_set HG_8.out (by show w1.heap.size ≤ GB; omega) _) (by show w1.heap.size ≤ GB; omega) _)
    have HR_9 : Hid (Rdr w9 R _ A1 cb z1 (p4 + 1 + 1)) := Lib.hid (by rw [hw]; exact (HR_8.out.set (by show R < GB; omega) _).set (by show R < GB; omega) _)
    have hz9 : w8.heap.size ≤ w9.heap.size := by rw [hw]; simp
    have HW9 : Hid (((w8.setCell ⟨GB, 0, none⟩ (.slice A7 ds.length c7)).setCell ⟨GB, 1, none⟩ (.int .i64 u)) = w9) := Lib.hid hw.symm
    obtain ⟨b0, b1, fb0, fb1⟩ := id PB_8.out
    clear hw X0_8 X1_8 PA_8 HD_8 HE_8 HG_8 HR_8
    go_wp2
    rw [HW9.out]
    clear HW9 b0 b1 fb0 fb1 PB_8
    have hz10 : GC ≤ w9.heap.size := by omega
    clear hz6 hz7 hz8 hz9 g5
    go_loopw [9] (fun kv wr => ∃ (k : Nat) (gs : List D) (p' : Nat), kv = .int .i64 k ∧ k ≤ ds.length ∧ p' ≤ p4 + 2 + k ∧ GC ≤ wr.heap.size ∧ Hid (∀ d ∈ gs, d.small) ∧ Hid (C2 wr w.heap.size (.slice none 0 0) (.int .i64 0)) ∧ Hid (C2 wr (w.heap.size + 1) (.slice none 0 0) (.int .i64 0)) ∧ Hid (wr.ownsRow w1.heap.size 94 2 (.slice Aa ds.length ca) ds.length (flat ds)) ∧ Hid (C2 wr GA (.slice Aa ds.length ca) (.int .i64 ba)) ∧ Hid (wr.ownsRow GC 94 2 (.slice A7 ds.length c7) ds.length (flat gs)) ∧ Hid (C2 wr GB (.slice A7 ds.length c7) (.int .i64 u)) ∧ Hid (w1.grownBy wr (some R)) ∧ Hid (Rdr wr R _ A1 cb z1 p')) (fun kv _ => ds.length - (intOf kv).toNat)
    case atStart => exact ⟨0, ds, p4 + 1 + 1, by go_num, by omega, by omega, hz10, HSa, X0_9, X1_9, HD_9, PA_9, HE_9, PB_9, HG_9, HR_9⟩
    case round =>
      clear X0_9 X1_9 HD_9 PA_9 HE_9 PB_9 HG_9 HR_9 hz10
      obtain ⟨k, gs, p', rfl, hk, hp', hz10, HSg, X0_10, X1_10, HD_10, PA_10, HE_10, PB_10, HG_10, HR_10⟩ := hrel
      rename World => w10
      by_cases hkn : k < ds.length
      · obtain ⟨g, hA, hbg, hgl⟩ := own_addr HE_10.out (by omega)
        subst hA
        have hk0 : (0 : Int) ≤ (k : Int) := by omega
        have hk1 : (k : Int) < (ds.length : Int) := by omega
        obtain ⟨b0, b1, fb0, fb1⟩ := id PB_10.out
        obtain ⟨v0, hv0, v1, v2⟩ := val_own HE_10.out HSg.out hkn
        have hgB : g ≠ GB := by omega
        have hgB' : GB ≠ g := by omega
        have hSDg := sd_of_own HE_10.out (fun d hd => small_ok (HSg.out d hd))
        have hcapE := hSDg.cap
        have hmaxE := hSDg.max
        unfold maxLen at hmaxE
        clear hSDg
        go_wp2_with fail
        refine wp_region_held_drew (S := (fun w' => w'.cell? ⟨GB, 0, none⟩ = some (.slice (some ⟨g, 0, none⟩) ds.length c7))) (by kernel_rfl) b0 (fun hHeld => ?_)
        refine wpAnyH_take (i := 0) (v := ?_) rfl (by kernel_rfl) (by kernel_rfl) (by kernel_rfl) (fun _ _ _ h => h) (Or.inl ⟨by kernel_rfl, ?_⟩) hHeld ?_
        rotate_left
        · intro wz hSw
          try dsimp only at hSw
          first
          | (go_simp; done)
          | (go_simp; with_reducible rfl)
        try simp only [Act.put, List.setIfInBounds_toArray, List.set_cons_zero, List.set_cons_succ]
        refine wpAnyH_take (i := 1) (v := ?_) rfl (by kernel_rfl) (by kernel_rfl) (by kernel_rfl) (fun _ _ _ h => h) (Or.inl ⟨by kernel_rfl, ?_⟩) hHeld ?_
        rotate_left
        · intro wz hSw
          try dsimp only at hSw
          first
          | (go_simp; done)
          | (go_simp; with_reducible rfl)
        try simp only [Act.put, List.setIfInBounds_toArray, List.set_cons_zero, List.set_cons_succ]
        refine wpAnyH_take (i := 2) (v := ?_) rfl (by kernel_rfl) (by kernel_rfl) (by kernel_rfl) (fun _ _ _ h => h) (Or.inl ⟨by kernel_rfl, ?_⟩) hHeld ?_
        rotate_left
        · intro wz hSw
          try dsimp only at hSw
          first
          | (go_simp; done)
          | (go_simp; with_reducible rfl)
        try simp only [Act.put, List.setIfInBounds_toArray, List.set_cons_zero, List.set_cons_succ]
        refine wpAnyH_take (i := 3) (v := ?_) rfl (by kernel_rfl) (by kernel_rfl) (by kernel_rfl) (fun _ _ _ h => h) (Or.inl ⟨by kernel_rfl, ?_⟩) hHeld ?_
        rotate_left
        · intro wz hSw
          try dsimp only at hSw
          first
          | (go_simp; done)
          | (go_simp; with_reducible rfl)
        try simp only [Act.put, List.setIfInBounds_toArray, List.set_cons_zero, List.set_cons_succ]
        refine wpAnyH_take (i := 4) (v := ?_) rfl (by kernel_rfl) (by kernel_rfl) (by kernel_rfl) (fun _ _ _ h => h) (Or.inl ⟨by kernel_rfl, ?_⟩) hHeld ?_
        rotate_left
        · intro wz hSw
          try dsimp only at hSw
          first
          | (go_simp; done)
          | (go_simp; with_reducible rfl)
        try simp only [Act.put, List.setIfInBounds_toArray, List.set_cons_zero, List.set_cons_succ]
        refine wpAnyH_take (i := 5) (v := ?_) rfl (by kernel_rfl) (by kernel_rfl) (by kernel_rfl) (fun _ _ _ h => h) (Or.inl ⟨by kernel_rfl, ?_⟩) hHeld ?_
        rotate_left
        · intro wz hSw
          try dsimp only at hSw
          first
          | (go_simp; done)
          | (go_simp; with_reducible rfl)
        try simp only [Act.put, List.setIfInBounds_toArray, List.set_cons_zero, List.set_cons_succ]
        refine wpAnyH_take (i := 6) (v := ?_) rfl (by kernel_rfl) (by kernel_rfl) (by kernel_rfl) (fun _ _ _ h => h) (Or.inl ⟨by kernel_rfl, ?_⟩) hHeld ?_
        rotate_left
        · intro wz hSw
          try dsimp only at hSw
          first
          | (go_simp; done)
          | (go_simp; with_reducible rfl)
        try simp only [Act.put, List.setIfInBounds_toArray, List.set_cons_zero, List.set_cons_succ]
        refine wpAnyH_take (i := 7) (v := ?_) rfl (by kernel_rfl) (by kernel_rfl) (by kernel_rfl) (fun _ _ _ h => h) (Or.inl ⟨by kernel_rfl, ?_⟩) hHeld ?_
        rotate_left
        · intro wz hSw
          try dsimp only at hSw
          first
          | (go_simp; done)
          | (go_simp; with_reducible rfl)
        try simp only [Act.put, List.setIfInBounds_toArray, List.set_cons_zero, List.set_cons_succ]
        refine wpAnyH_take (i := 8) (v := ?_) rfl (by kernel_rfl) (by kernel_rfl) (by kernel_rfl) (fun _ _ _ h => h) (Or.inl ⟨by kernel_rfl, ?_⟩) hHeld ?_
        rotate_left
        · intro wz hSw
          try dsimp only at hSw
          first
          | (go_simp; done)
          | (go_simp; with_reducible rfl)
        try simp only [Act.put, List.setIfInBounds_toArray, List.set_cons_zero, List.set_cons_succ]
        refine wpAnyH_ready (rs := [9]) (by kernel_rfl) (by simp) ?_
        refine AllReadyH.cons rfl (fun K hK => ?_) AllReadyH.nil
        go_simp
        refine hK.out _ _ b0 (fun hHeld => ?_)
        clear hK K
        try simp only [Act.put, List.setIfInBounds_toArray, List.set_cons_zero, List.set_cons_succ]
        refine wpAnyH_ready (rs := [10]) (by kernel_rfl) (by simp) ?_
        refine AllReadyH.cons rfl (fun K hK => ?_) AllReadyH.nil
        go_simp
        refine hK.out _ _ (by first | exact keep1 ((Below.refl w10.heap.size w10).alloc (Nat.le_refl _) _) b0 | (simp; exact b0) | simpa [go_sem] using b0) (fun hHeld => ?_)
        clear hK K
        try simp only [Act.put, List.setIfInBounds_toArray, List.set_cons_zero, List.set_cons_succ]
        refine wpAnyH_ready (rs := [11]) (by kernel_rfl) (by simp) ?_
        refine AllReadyH.cons rfl (fun K hK => ?_) AllReadyH.nil
        go_simp
        (refine (one_any (-5000) 5000 R _ A1 cb z1 p' w10.heap.size 7 7 _ ((HR_10.out.drewN 1).below ((Below.refl _ _).alloc (Nat.le_refl _) _)) (by omega) (by omega) (by omega) (by omega) (litI rfl rfl (by simp [allI]; omega))).mono ?_; rintro e w11 ⟨v, rfl, v3, v4, hg, hr⟩; replace hg : w10.grownBy w11 (some R) := grown_undrew hg; have HE_11 := Lib.hid (HE_10.out.kept hg (own_neR HE_10.out (by omega))); have hf1 := HE_11.out.frozenAt (k * 2 + 1); obtain ⟨y1, hx1⟩ := own_cell HE_11.out (k * 2 + 1) (by omega); have y0 := hg.cell b0 (fun e => by have e2 : GB = R := Option.some.inj e; omega))
        go_simp
        refine hK.out _ _ y0 (fun hHeld => ?_)
        clear hK K
        try simp only [Act.put, List.setIfInBounds_toArray, List.set_cons_zero, List.set_cons_succ]
        refine wpAnyH_take (i := 12) (v := ?_) rfl (by kernel_rfl) (by kernel_rfl) (by kernel_rfl) (fun _ _ _ h => h) (Or.inl ⟨by kernel_rfl, ?_⟩) hHeld ?_
        rotate_left
        · intro wz hSw
          try dsimp only at hSw
          first
          | (go_simp; done)
          | (go_simp; with_reducible rfl)
        try simp only [Act.put, List.setIfInBounds_toArray, List.set_cons_zero, List.set_cons_succ]
        refine wpAnyH_take (i := 13) (v := ?_) rfl (by kernel_rfl) (by kernel_rfl) (by kernel_rfl) (fun _ _ _ h => h) (Or.inl ⟨by kernel_rfl, ?_⟩) hHeld ?_
        rotate_left
        · intro wz hSw
          try dsimp only at hSw
          first
          | (go_simp; done)
          | (go_simp; with_reducible rfl)
        try simp only [Act.put, List.setIfInBounds_toArray, List.set_cons_zero, List.set_cons_succ]
        refine wpAnyH_ready (rs := [14]) (by kernel_rfl) (by simp) ?_
        refine AllReadyH.cons rfl (fun K hK => ?_) AllReadyH.nil
        go_simp
        refine hK.out _ _ ((World.cell?_setCell_other _ _ _ _ (by intro e; injection e with e1 e2; omega)).trans y0) (fun hHeld => ?_)
        clear hK K
        try simp only [Act.put, List.setIfInBounds_toArray, List.set_cons_zero, List.set_cons_succ]
        refine wpAnyH_done (by kernel_rfl) ?_ _
        try go_simp
        have X0_11 := Lib.hid (X0_10.out.grown hg (fun e => by injection e with e; omega))
        have X1_11 := Lib.hid (X1_10.out.grown hg (fun e => by injection e with e; omega))
        have HD_11 := Lib.hid (HD_10.out.kept hg (own_neR HD_10.out (by omega)))
        have PA_11 := Lib.hid (PA_10.out.grown hg (fun e => by injection e with e; omega))
        have PB_11 := Lib.hid (PB_10.out.grown hg (fun e => by injection e with e; omega))
        have HG_11 : Hid (w1.grownBy w11 (some R)) := Lib.hid (HG_10.out.trans hg)
        have HR_11 := Lib.hid hr
        have hz11 : w10.heap.size ≤ w11.heap.size := hg.size
        clear hg hr
        clear X0_10 X1_10 HD_10 PA_10 PB_10 HG_10 HR_10
        have hkg : k < gs.length := by have := HE_11.out.1; rw [flat_length] at this; omega
        obtain ⟨w12, hw⟩ : ∃ W : World, W = w11.setCell ⟨g, k * 2 + 1, none⟩ (.int .i64 v) := ⟨_, rfl⟩
        have hb : Below GC w11 w12 := by rw [hw]; exact (Below.refl _ _).setCell hbg _
        have X0_12 := Lib.hid (X0_11.out.low hb (by omega))
        have X1_12 := Lib.hid (X1_11.out.low hb (by omega))
        have PA_12 := Lib.hid (PA_11.out.low hb (by omega))
        have PB_12 := Lib.hid (PB_11.out.low hb (by omega))
        have HD_12 := Lib.hid (ownLowO HD_11.out hb (fun q hq => by have := HDC1.out q hq; omega))
        have HE_12 : Hid (w12.ownsRow GC 94 2 (.slice (some ⟨g, 0, none⟩) ds.length c7) ds.length (flat (gs.set k ⟨gs[k].name, v⟩))) := Lib.hid (by rw [← flat_set_val gs k hkg v, hw]; exact (HE_11.out.stored (k * 2 + 1) (.int .i64 v)).1)
        have HG_12 : Hid (w1.grownBy w12 (some R)) := Lib.hid (grown_below HG_11.out (hb.mono (by omega)))
        have HR_12 := Lib.hid (HR_11.out.belowL hb (by omega))
        have hz12 : GC ≤ w12.heap.size := by have := hb.size; omega
        have HSg2 : Hid (∀ d ∈ gs.set k ⟨gs[k].name, v⟩, d.small) := Lib.hid (small_set HSg.out hkg (fun h => ⟨h.1, by show (-5000 : Int) ≤ v; omega, by show v ≤ 5000; omega⟩))
        have HW12 : Hid (w11.setCell ⟨g, k * 2 + 1, none⟩ (.int .i64 v) = w12) := Lib.hid hw.symm
        clear hw hb X0_11 X1_11 PA_11 PB_11 HD_11 HG_11 HR_11 HE_11
        go_wp2
        go_roundw
        all_goals try rw [HW12.out]
        case rel => exact ⟨k + 1, _, p' + 1, by go_num, by omega, by omega, hz12, HSg2, X0_12, X1_12, HD_12, PA_12, HE_12, PB_12, HG_12, HR_12⟩
        case measure => simp [intOf]; omega
      · have hk1 : ¬ (k : Int) < (ds.length : Int) := by omega
        obtain ⟨a0, a1, fa0, fa1⟩ := id PA_10.out
        obtain ⟨b0, b1, fb0, fb1⟩ := id PB_10.out
        obtain ⟨x0, y0, gx0, gy0⟩ := id X0_10.out
        obtain ⟨x1, y1, gx1, gy1⟩ := id X1_10.out
        go_upto_region 10 with fail
        go_region_held3 (fun w' => w'.cell? ⟨GA, 0, none⟩ = some (.slice Aa ds.length ca) ∧ w'.cell? ⟨GA, 1, none⟩ = some (.int .i64 ba) ∧ w'.cell? ⟨GB, 0, none⟩ = some (.slice A7 ds.length c7) ∧ w'.cell? ⟨GB, 1, none⟩ = some (.int .i64 u)) (first | exact ⟨a0, a1, b0, b1⟩ | go_keep | (refine ⟨?_, ?_, ?_, ?_⟩ <;> (repeat rw [World.cell?_setCell_other _ _ _ _ (by intro e; injection e with e1 e2; omega)]) <;> assumption)) (fail)
        all_goals
          go_wp2
          refine bodyPost_ret (v := .tuple #[.agg #[.slice Aa ds.length ca, .int .i64 ba], .agg #[.slice A7 ds.length c7, .int .i64 u], .int .i64 x]) (by simp [results, Try.results15, go_sem, x0, x1, y0, y1, hd1, hd2]) rfl ⟨Aa, ca, ds, ba, A7, ds.length, c7, gs, u, x, rfl, hna, hna, HSa.out, HSg.out, HBa.out, ?_, HX.out, sd_of_own (own_setCell (own_setCell (own_setCell (own_setCell (HD_10.out) (fun e => by have := (HD_10.out.lt _ e).1; simp only at this; omega) _) (fun e => by have := (HD_10.out.lt _ e).1; simp only at this; omega) _) (fun e => by have := (HD_10.out.lt _ e).1; simp only at this; omega) _) (fun e => by have := (HD_10.out.lt _ e).1; simp only at this; omega) _) (fun d hd => small_ok (HSa.out d hd)), ?_, ?_⟩
          · exact ⟨by omega, by omega⟩
          · exact sd_of_own (own_setCell (own_setCell (own_setCell (own_setCell (HE_10.out) (fun e => by have := (HE_10.out.lt _ e).1; simp only at this; omega) _) (fun e => by have := (HE_10.out.lt _ e).1; simp only at this; omega) _) (fun e => by have := (HE_10.out.lt _ e).1; simp only at this; omega) _) (fun e => by have := (HE_10.out.lt _ e).1; simp only at this; omega) _) (fun d hd => small_ok (HSg.out d hd))
          · exact below_drewN (by refine Below.setCell (Below.setCell (Below.setCell (Below.setCell (HB1.out.grown HG_10.out HB1.out.size (fun k hk => by cases hk; omega)) ?_ _) ?_ _) ?_ _) ?_ _ <;> simp) 1
  · have z0 : (r == 0) = false := beq_eq_false_iff_ne.2 hr0
    clear hr0
    obtain ⟨a0, a1, fa0, fa1⟩ := id PA_6.out
    obtain ⟨b0, b1, fb0, fb1⟩ := id PB_6.out
    obtain ⟨x0, y0, gx0, gy0⟩ := id X0_6.out
    obtain ⟨x1, y1, gx1, gy1⟩ := id X1_6.out
    go_upto_region 10 with fail
    go_region_held3 (fun w' => w'.cell? ⟨GA, 0, none⟩ = some (.slice Aa ds.length ca) ∧ w'.cell? ⟨GA, 1, none⟩ = some (.int .i64 ba) ∧ w'.cell? ⟨GB, 0, none⟩ = some (.slice Ab es.length cc) ∧ w'.cell? ⟨GB, 1, none⟩ = some (.int .i64 bb)) (first | exact ⟨a0, a1, b0, b1⟩ | go_keep | (refine ⟨?_, ?_, ?_, ?_⟩ <;> (repeat rw [World.cell?_setCell_other _ _ _ _ (by intro e; injection e with e1 e2; omega)]) <;> assumption)) (fail)
    all_goals
      go_wp2
      refine bodyPost_ret (v := .tuple #[.agg #[.slice Aa ds.length ca, .int .i64 ba], .agg #[.slice Ab es.length cc, .int .i64 bb], .int .i64 x]) (by simp [results, Try.results15, go_sem, x0, x1, y0, y1, hd1, hd2]) rfl ⟨Aa, ca, ds, ba, Ab, es.length, cc, es, bb, x, rfl, hna, hne, HSa.out, HSb.out, HBa.out, ?_, HX.out, sd_of_own (own_setCell (own_setCell (own_setCell (own_setCell (HD_6.out) (fun e => by have := (HD_6.out.lt _ e).1; simp only at this; omega) _) (fun e => by have := (HD_6.out.lt _ e).1; simp only at this; omega) _) (fun e => by have := (HD_6.out.lt _ e).1; simp only at this; omega) _) (fun e => by have := (HD_6.out.lt _ e).1; simp only at this; omega) _) (fun d hd => small_ok (HSa.out d hd)), ?_, ?_⟩
      · exact HBb.out
      · exact sd_of_own (own_setCell (own_setCell (own_setCell (own_setCell (HE_6.out) (fun e => by have := (HE_6.out.lt _ e).1; simp only at this; omega) _) (fun e => by have := (HE_6.out.lt _ e).1; simp only at this; omega) _) (fun e => by have := (HE_6.out.lt _ e).1; simp only at this; omega) _) (fun e => by have := (HE_6.out.lt _ e).1; simp only at this; omega) _) (fun d hd => small_ok (HSb.out d hd))
      · exact below_drewN (by refine Below.setCell (Below.setCell (Below.setCell (Below.setCell (HB1.out.grown HG_6.out HB1.out.size (fun k hk => by cases hk; omega)) ?_ _) ?_ _) ?_ _) ?_ _ <;> simp) 1
end Go.Proofs.Ytkholjcmaebaaaa
