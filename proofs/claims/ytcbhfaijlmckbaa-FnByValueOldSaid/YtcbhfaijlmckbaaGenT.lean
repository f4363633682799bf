import Derived.Test.YtcbhfaijlmckbaaGenC
import Derived.Test.YtcbhfaijlmckbaaGenD
import Derived.Deep.DeepCutAuto
namespace Go.Proofs.Ytcbhfaijlmckbaa
open Go.RowKit
set_option linter.unusedVariables false
set_option linter.unusedSimpArgs false
set_option maxRecDepth 100000

/-- The name of the definition at i. -/
def nmD (ds : List D) (i : Nat) : ByteArray := ds[i]?.elim ⟨#[]⟩ (·.name)
theorem nmD_at {ds : List D} {i : Nat} (h : i < ds.length) : nmD ds i = ds[i].name := by unfold nmD; rw [List.getElem?_eq_getElem h]; rfl
theorem nmD_own {w : World} {base n c g : Nat} {e : TypeId} {ds : List D} (h : w.ownsRow base e 2 (.slice (some ⟨g, 0, none⟩) n c) n (flat ds)) : ∀ i, i < ds.length → w.cell? ⟨g, i * 2, none⟩ = some (.string (nmD ds i)) := fun i hi => by
  have hl : ds.length = n := by have := h.1; rw [flat_length] at this; omega
  rw [h.cellAt (i * 2) (by omega), nmD_at hi]; exact (flat_get ds i hi).1
/-- Two drawn enumerations and a name. -/
def DrawEES (w : World) (e : Ending) (w' : World) : Prop :=
  ∃ (Aa : Option Addr) (ca : Nat) (ds : List D) (Ab : Option Addr) (cc : Nat) (bs : List D) (s : ByteArray), e = .returned (.tuple #[.agg #[.slice Aa ds.length ca], .agg #[.slice Ab bs.length cc], .string s]) ∧ s.size ≤ 100 ∧ ds.length ≤ 25 ∧ bs.length ≤ 12 ∧ (∀ d ∈ ds, d.small) ∧ (∀ d ∈ bs, d.small) ∧ w'.ownsRow w.heap.size 60 2 (.slice Aa ds.length ca) ds.length (flat ds) ∧ w'.ownsRow w.heap.size 60 2 (.slice Ab bs.length cc) bs.length (flat bs) ∧ Below w.heap.size w w'
def DrawEESs (w : World) (e : Ending) (w' : World) : Prop :=
  ∃ (Aa : Option Addr) (ca : Nat) (ds : List D) (Ab : Option Addr) (cc : Nat) (bs : List D) (s : ByteArray), e = .returned (.tuple #[.agg #[.slice Aa ds.length ca], .agg #[.slice Ab bs.length cc], .string s]) ∧ s.size ≤ 100 ∧ ds.length ≤ 25 ∧ bs.length ≤ 12 ∧ (∀ d ∈ ds, d.small) ∧ (∀ d ∈ bs, d.small) ∧ SD w' w'.heap.size Aa ds.length ca ds ∧ SD w' w'.heap.size Ab bs.length cc bs ∧ Below w.heap.size w w'
theorem drawEES_s {w w' : World} {e : Ending} (h : DrawEES w e w') : DrawEESs w e w' := by
  obtain ⟨Aa, ca, ds, Ab, cc, bs, s, h1, h2, h3, h4, h5, h6, h7, h8, h9⟩ := h
  exact ⟨Aa, ca, ds, Ab, cc, bs, s, h1, h2, h3, h4, h5, h6, sd_of_own h7 (fun d hd => small_ok (h5 d hd)), sd_of_own h8 (fun d hd => small_ok (h6 d hd)), h9⟩
set_option maxHeartbeats 16000000 in
theorem drawByName_any (A : Option Addr) (n c : Nat) (zs : List Int) (w : World) (h : SB w w.heap.size A n c zs) :
    Calls Try.prog 31 #[.slice A n c] w (DrawEES w) := by
  have HS := Lib.hid h
  clear h
  obtain ⟨w0, hw⟩ : ∃ W : World, W = ((w.alloc (.cells #[.slice none 0 0] 25)).alloc (.cells #[.slice none 0 0] 25)) := ⟨_, rfl⟩
  have hb : Below w.heap.size w w0 := by rw [hw]; exact (((Below.refl _ _).alloc (by first | exact Nat.le_refl _ | (simp; done) | (simp; omega)) _).alloc (by first | exact Nat.le_refl _ | (simp; done) | (simp; omega)) _)
  have hz0 : w0.heap.size = w.heap.size + 2 := by rw [hw]; simp
  have X0_0 : Hid (Cl w0 (w.heap.size) (.slice none 0 0)) := Lib.hid (by rw [hw]; exact ⟨by simp [go_sem], by simp [go_sem]⟩)
  have X1_0 : Hid (Cl w0 (w.heap.size + 1) (.slice none 0 0)) := Lib.hid (by rw [hw]; exact ⟨by simp [go_sem], by simp [go_sem]⟩)
  have HSB : Hid (SB w0 w0.heap.size A n c zs) := Lib.hid (by rw [hw]; exact (HS.out.alloc0 _).alloc0 _)
  have HW0 : Hid (((w.alloc (.cells #[.slice none 0 0] 25)).alloc (.cells #[.slice none 0 0] 25)) = w0) := Lib.hid hw.symm
  have HB0 := Lib.hid hb
  clear hb hw HS
  go_enter Try.func31, Try.ntmps31
  go_wp2_with fail
  rw [HW0.out]
  refine (newReader_any A n c zs _ HSB.out).mono ?_
  rintro e w1 ⟨R, A1, cb, z1, rfl, hR, hr, hb⟩
  have hR2 : w.heap.size + 2 ≤ R := by omega
  have X0_1 := Lib.hid (X0_0.out.below hb)
  have X1_1 := Lib.hid (X1_0.out.below hb)
  have HB1 : Hid (Below w.heap.size w w1) := Lib.hid (HB0.out.trans (hb.mono HB0.out.size))
  have HR_1 := Lib.hid hr
  have hz1 : w.heap.size + 2 ≤ w1.heap.size := by have := hb.size; omega
  have hRl : R < w1.heap.size := hr.lt
  clear hb hr X0_0 X1_0 HSB HW0 HB0 hR hz0
  go_wp2_with fail
  refine (twoEnums_any R _ A1 cb z1 0 _ HR_1.out (by omega)).mono ?_
  rintro e w2 ⟨Aa, ca, ds, Ab, cc, bs, p2, rfl, hna, hnb, hsa, hsb, hoa, hob, hp2, hg, hr⟩
  have X0_2 := Lib.hid (X0_1.out.grown hg (fun e => by injection e with e; omega))
  have X1_2 := Lib.hid (X1_1.out.grown hg (fun e => by injection e with e; omega))
  have HG_2 : Hid (w1.grownBy w2 (some R)) := Lib.hid hg
  have HA_2 := Lib.hid hoa
  have HBb_2 := Lib.hid hob
  have HSa := Lib.hid hsa
  have HSb := Lib.hid hsb
  have HR_2 := Lib.hid hr
  have hz2 : w1.heap.size ≤ w2.heap.size := hg.size
  clear hg hr hoa hob hsa hsb X0_1 X1_1 HR_1
  obtain ⟨w3, hw⟩ : ∃ W : World, W = ((w2.alloc (.cells #[.slice Aa ds.length ca] 25)).alloc (.cells #[.slice Ab bs.length cc] 25)) := ⟨_, rfl⟩
  have hb : Below w2.heap.size w2 w3 := by rw [hw]; exact (((Below.refl _ _).alloc (by first | exact Nat.le_refl _ | (simp; done) | (simp; omega)) _).alloc (by first | exact Nat.le_refl _ | (simp; done) | (simp; omega)) _)
  have ca_3 : w3.cell? ⟨w2.heap.size, 0, none⟩ = some (.slice Aa ds.length ca) := by rw [hw]; simp [go_sem]
  have cb_3 : w3.cell? ⟨w2.heap.size + 1, 0, none⟩ = some (.slice Ab bs.length cc) := by rw [hw]; simp [go_sem]
  have lfa : ((w2.alloc (.cells #[.slice Aa ds.length ca] 25)).alloc (.cells #[.slice Ab bs.length cc] 25)).cell? ⟨w2.heap.size, 0, none⟩ = some (.slice Aa ds.length ca) := by rw [← hw]; exact ca_3
  have HW3 : Hid (((w2.alloc (.cells #[.slice Aa ds.length ca] 25)).alloc (.cells #[.slice Ab bs.length cc] 25)) = w3) := Lib.hid hw.symm
  have hz3 : w2.heap.size + 2 ≤ w3.heap.size := by rw [hw]; simp
  have X0_3 := Lib.hid (X0_2.out.below hb)
  have X1_3 := Lib.hid (X1_2.out.below hb)
  have HA_3 := Lib.hid (own_below HA_2.out hb)
  have HBb_3 := Lib.hid (own_below HBb_2.out hb)
  have HG_3 : Hid (w1.grownBy w3 (some R)) := Lib.hid (grown_below HG_2.out (hb.mono HG_2.out.size))
  have HR_3 := Lib.hid (HR_2.out.below hb)
  clear hb hw X0_2 X1_2 HA_2 HBb_2 HG_2 HR_2
  have hd1 : ¬ w.heap.size + 1 = w.heap.size := by omega
  have hd2 : ¬ w.heap.size = w.heap.size + 1 := by omega
  by_cases h0 : ds.length = 0
  · have h01 : ¬ (0 < (ds.length : Int)) := by omega
    have H0 := Lib.hid h0
    clear h0
    go_upto_region 5 with fail
    rw [HW3.out]
    clear HW3 lfa
    generalize w2.heap.size = G at *
    have n1 : G ≠ w.heap.size := by omega
    have n2 : w.heap.size ≠ G := by omega
    have n3 : G ≠ w.heap.size + 1 := by omega
    have n4 : w.heap.size + 1 ≠ G := by omega
    have n5 : G + 1 ≠ w.heap.size := by omega
    have n6 : G + 1 ≠ w.heap.size + 1 := by omega
    go_region_held3 (fun w' => w'.cell? ⟨G, 0, none⟩ = some (.slice Aa ds.length ca) ∧ w'.cell? ⟨G + 1, 0, none⟩ = some (.slice Ab bs.length cc)) (first | exact ⟨ca_3, cb_3⟩ | exact ⟨ya, yb⟩ | exact ⟨(World.cell?_setCell_other _ _ _ _ (by intro e; injection e with e1 e2; omega)).trans ya, (World.cell?_setCell_other _ _ _ _ (by intro e; injection e with e1 e2; omega)).trans yb⟩ | exact ⟨(World.cell?_setCell_other _ _ _ _ (by intro e; injection e with e1 e2; omega)).trans ((World.cell?_setCell_other _ _ _ _ (by intro e; injection e with e1 e2; omega)).trans ya), (World.cell?_setCell_other _ _ _ _ (by intro e; injection e with e1 e2; omega)).trans ((World.cell?_setCell_other _ _ _ _ (by intro e; injection e with e1 e2; omega)).trans yb)⟩)
      (first
        | (go_at_call 80; refine (anyName_any R _ A1 cb z1 p2 _ (HR_3.out.drewN 1) (by omega)).mono ?_; rintro e w4 ⟨s, p4, rfl, hs, hp4, hg, hr⟩; replace hg : w3.grownBy w4 (some R) := ⟨hg.os, hg.tape, hg.output, hg.size, hg.block⟩; have ya := hg.cell ca_3 (fun e => by have e2 : G = R := Option.some.inj e; omega); have yb := hg.cell cb_3 (fun e => by have e2 : G + 1 = R := Option.some.inj e; omega); have X04 := X0_3.out.grown hg (fun e => by injection e with e; omega); have X14 := X1_3.out.grown hg (fun e => by injection e with e; omega); obtain ⟨x0, y0⟩ := id X04; obtain ⟨x1, y1⟩ := id X14; have HA4 := Lib.hid (HA_3.out.kept hg (own_neR HA_3.out (by omega))); have HB4 := Lib.hid (HBb_3.out.kept hg (own_neR HBb_3.out (by omega))); have hz4 := hg.size))
    all_goals
      have HG4 : Hid (w1.grownBy w4 (some R)) := Lib.hid (HG_3.out.trans hg)
      clear hg hr
      go_wp2
      refine bodyPost_ret (v := .tuple #[.agg #[.slice Aa ds.length ca], .agg #[.slice Ab bs.length cc], .string s]) (by simp [results, Try.results31, go_sem, x0, x1, hd1, hd2]) rfl ⟨Aa, ca, ds, Ab, cc, bs, s, rfl, hs, hna, hnb, HSa.out, HSb.out, ?_, ?_, ?_⟩
      · exact own_base (own_setCell (own_setCell HA4.out (fun e => by have := (HA4.out.lt _ e).1; simp only at this; omega) _) (fun e => by have := (HA4.out.lt _ e).1; simp only at this; omega) _) (by omega)
      · exact own_base (own_setCell (own_setCell HB4.out (fun e => by have := (HB4.out.lt _ e).1; simp only at this; omega) _) (fun e => by have := (HB4.out.lt _ e).1; simp only at this; omega) _) (by omega)
      · exact ((HB1.out.grown HG4.out HB1.out.size (fun k hk => by cases hk; omega)).setCell (by simp) _).setCell (by simp) _
  · have h01 : (0 < (ds.length : Int)) := by omega
    go_wp2_with fail
    rw [HW3.out]
    clear HW3 lfa
    generalize w2.heap.size = G at *
    have n1 : G ≠ w.heap.size := by omega
    have n2 : w.heap.size ≠ G := by omega
    have n3 : G ≠ w.heap.size + 1 := by omega
    have n4 : w.heap.size + 1 ≠ G := by omega
    have n5 : G + 1 ≠ w.heap.size := by omega
    have n6 : G + 1 ≠ w.heap.size + 1 := by omega
    refine (pick_any 6 R _ A1 cb z1 p2 _ HR_3.out (by omega) (by omega) (by omega)).mono ?_
    rintro e w5 ⟨r, rfl, r0, r1, hg, hr⟩
    have ca_5 := hg.cell ca_3 (fun e => by have e2 : G = R := Option.some.inj e; omega)
    have cb_5 := hg.cell cb_3 (fun e => by have e2 : G + 1 = R := Option.some.inj e; omega)
    have X0_5 := Lib.hid (X0_3.out.grown hg (fun e => by injection e with e; omega))
    have X1_5 := Lib.hid (X1_3.out.grown hg (fun e => by injection e with e; omega))
    have HA_5 := Lib.hid (HA_3.out.kept hg (own_neR HA_3.out (by omega)))
    have HBb_5 := Lib.hid (HBb_3.out.kept hg (own_neR HBb_3.out (by omega)))
    have HG_5 : Hid (w1.grownBy w5 (some R)) := Lib.hid (HG_3.out.trans hg)
    have HR_5 := Lib.hid hr
    have hz5 := hg.size
    clear hg hr ca_3 cb_3 X0_3 X1_3 HA_3 HBb_3 HG_3 HR_3
    by_cases hr0 : 0 < r
    · obtain ⟨g, hA, hbg, hgl⟩ := own_addr HA_5.out (by omega)
      subst hA
      have hn5 := nmD_own HA_5.out
      go_wp2_with fail
      go_region_held3 (fun w' => w'.cell? ⟨G, 0, none⟩ = some (.slice (some ⟨g, 0, none⟩) ds.length ca) ∧ w'.cell? ⟨G + 1, 0, none⟩ = some (.slice Ab bs.length cc) ∧ ∀ i, i < ds.length → w'.cell? ⟨g, i * 2, none⟩ = some (.string (nmD ds i)))
        (first | exact ⟨ca_5, cb_5, hn5⟩ | exact ⟨ya, yb, yn⟩ | exact ⟨(World.cell?_setCell_other _ _ _ _ (by intro e; injection e with e1 e2; omega)).trans ya, (World.cell?_setCell_other _ _ _ _ (by intro e; injection e with e1 e2; omega)).trans yb, fun i hi => (World.cell?_setCell_other _ _ _ _ (by intro e; injection e with e1 e2; omega)).trans (yn i hi)⟩ | exact ⟨(World.cell?_setCell_other _ _ _ _ (by intro e; injection e with e1 e2; omega)).trans ((World.cell?_setCell_other _ _ _ _ (by intro e; injection e with e1 e2; omega)).trans ya), (World.cell?_setCell_other _ _ _ _ (by intro e; injection e with e1 e2; omega)).trans ((World.cell?_setCell_other _ _ _ _ (by intro e; injection e with e1 e2; omega)).trans yb), fun i hi => (World.cell?_setCell_other _ _ _ _ (by intro e; injection e with e1 e2; omega)).trans ((World.cell?_setCell_other _ _ _ _ (by intro e; injection e with e1 e2; omega)).trans (yn i hi))⟩)
        (first | (go_at_call 71; refine (pick_any ds.length R _ A1 cb z1 (p2 + 1) _ (HR_5.out.drewN 1) (by omega) (by omega) (by omega)).mono ?_; rintro e w4 ⟨k, rfl, k0, k1, hg, hr⟩; replace k1 := k1 (by omega); obtain ⟨k, rfl⟩ := Int.eq_ofNat_of_zero_le k0; have hk : k < ds.length := (by omega); replace hg : w5.grownBy w4 (some R) := ⟨hg.os, hg.tape, hg.output, hg.size, hg.block⟩; have ya := hg.cell ca_5 (fun e => by have e2 : G = R := Option.some.inj e; omega); have yb := hg.cell cb_5 (fun e => by have e2 : G + 1 = R := Option.some.inj e; omega); have X04 := X0_5.out.grown hg (fun e => by injection e with e; omega); have X14 := X1_5.out.grown hg (fun e => by injection e with e; omega); obtain ⟨x0, y0⟩ := id X04; obtain ⟨x1, y1⟩ := id X14; have HA4 := Lib.hid (HA_5.out.kept hg (own_neR HA_5.out (by omega))); have HB4 := Lib.hid (HBb_5.out.kept hg (own_neR HBb_5.out (by omega))); have hz4 := hg.size; have yn := nmD_own HA4.out; have y2 := yn k hk; have HZ : Hid ((nmD ds k).size ≤ 100) := Lib.hid (by rw [nmD_at hk]; exact (HSa.out _ (List.getElem_mem hk)).1); have hgw : g ≠ w.heap.size := (by omega); have hgw1 : g ≠ w.heap.size + 1 := (by omega)))
      go_wp2
      all_goals
        have HG4 : Hid (w1.grownBy w4 (some R)) := Lib.hid (HG_5.out.trans hg)
        have hs : (nmD ds k).size ≤ 100 := HZ.out
        generalize nmD ds k = s at *
        refine bodyPost_ret (v := .tuple #[.agg #[.slice (some ⟨g, 0, none⟩) ds.length ca], .agg #[.slice Ab bs.length cc], .string s]) (by simp [results, Try.results31, go_sem, x0, x1, hd1, hd2]) rfl ⟨some ⟨g, 0, none⟩, ca, ds, Ab, cc, bs, s, rfl, hs, hna, hnb, HSa.out, HSb.out, ?_, ?_, ?_⟩
        · exact own_base (own_setCell (own_setCell HA4.out (fun e => by have := (HA4.out.lt _ e).1; simp only at this; omega) _) (fun e => by have := (HA4.out.lt _ e).1; simp only at this; omega) _) (by omega)
        · exact own_base (own_setCell (own_setCell HB4.out (fun e => by have := (HB4.out.lt _ e).1; simp only at this; omega) _) (fun e => by have := (HB4.out.lt _ e).1; simp only at this; omega) _) (by omega)
        · exact ((HB1.out.grown HG4.out HB1.out.size (fun k hk => by cases hk; omega)).setCell (by simp) _).setCell (by simp) _
    · go_upto_region 5 with fail
      go_region_held3 (fun w' => w'.cell? ⟨G, 0, none⟩ = some (.slice Aa ds.length ca) ∧ w'.cell? ⟨G + 1, 0, none⟩ = some (.slice Ab bs.length cc)) (first | exact ⟨ca_5, cb_5⟩ | exact ⟨ya, yb⟩ | exact ⟨(World.cell?_setCell_other _ _ _ _ (by intro e; injection e with e1 e2; omega)).trans ya, (World.cell?_setCell_other _ _ _ _ (by intro e; injection e with e1 e2; omega)).trans yb⟩ | exact ⟨(World.cell?_setCell_other _ _ _ _ (by intro e; injection e with e1 e2; omega)).trans ((World.cell?_setCell_other _ _ _ _ (by intro e; injection e with e1 e2; omega)).trans ya), (World.cell?_setCell_other _ _ _ _ (by intro e; injection e with e1 e2; omega)).trans ((World.cell?_setCell_other _ _ _ _ (by intro e; injection e with e1 e2; omega)).trans yb)⟩)
        (first
          | (go_at_call 80; refine (anyName_any R _ A1 cb z1 (p2 + 1) _ (HR_5.out.drewN 1) (by omega)).mono ?_; rintro e w4 ⟨s, p4, rfl, hs, hp4, hg, hr⟩; replace hg : w5.grownBy w4 (some R) := ⟨hg.os, hg.tape, hg.output, hg.size, hg.block⟩; have ya := hg.cell ca_5 (fun e => by have e2 : G = R := Option.some.inj e; omega); have yb := hg.cell cb_5 (fun e => by have e2 : G + 1 = R := Option.some.inj e; omega); have X04 := X0_5.out.grown hg (fun e => by injection e with e; omega); have X14 := X1_5.out.grown hg (fun e => by injection e with e; omega); obtain ⟨x0, y0⟩ := id X04; obtain ⟨x1, y1⟩ := id X14; have HA4 := Lib.hid (HA_5.out.kept hg (own_neR HA_5.out (by omega))); have HB4 := Lib.hid (HBb_5.out.kept hg (own_neR HBb_5.out (by omega))); have hz4 := hg.size))
      all_goals
        have HG4 : Hid (w1.grownBy w4 (some R)) := Lib.hid (HG_5.out.trans hg)
        clear hg hr
        go_wp2
        refine bodyPost_ret (v := .tuple #[.agg #[.slice Aa ds.length ca], .agg #[.slice Ab bs.length cc], .string s]) (by simp [results, Try.results31, go_sem, x0, x1, hd1, hd2]) rfl ⟨Aa, ca, ds, Ab, cc, bs, s, rfl, hs, hna, hnb, HSa.out, HSb.out, ?_, ?_, ?_⟩
        · exact own_base (own_setCell (own_setCell HA4.out (fun e => by have := (HA4.out.lt _ e).1; simp only at this; omega) _) (fun e => by have := (HA4.out.lt _ e).1; simp only at this; omega) _) (by omega)
        · exact own_base (own_setCell (own_setCell HB4.out (fun e => by have := (HB4.out.lt _ e).1; simp only at this; omega) _) (fun e => by have := (HB4.out.lt _ e).1; simp only at this; omega) _) (by omega)
        · exact ((HB1.out.grown HG4.out HB1.out.size (fun k hk => by cases hk; omega)).setCell (by simp) _).setCell (by simp) _
set_option maxHeartbeats 4000000 in
theorem drawByValue_any (A : Option Addr) (n c : Nat) (zs : List Int) (w : World) (h : SB w w.heap.size A n c zs) :
    Calls Try.prog 35 #[.slice A n c] w (DrawEES w) := by
  have HS := Lib.hid h
  clear h
  obtain ⟨w0, hw⟩ : ∃ W : World, W = ((w.alloc (.cells #[.slice none 0 0] 25)).alloc (.cells #[.slice none 0 0] 25)) := ⟨_, rfl⟩
  have hb : Below w.heap.size w w0 := by rw [hw]; exact (((Below.refl _ _).alloc (by first | exact Nat.le_refl _ | (simp; done) | (simp; omega)) _).alloc (by first | exact Nat.le_refl _ | (simp; done) | (simp; omega)) _)
  have hz0 : w0.heap.size = w.heap.size + 2 := by rw [hw]; simp
  have X0_0 : Hid (Cl w0 (w.heap.size) (.slice none 0 0)) := Lib.hid (by rw [hw]; exact ⟨by simp [go_sem], by simp [go_sem]⟩)
  have X1_0 : Hid (Cl w0 (w.heap.size + 1) (.slice none 0 0)) := Lib.hid (by rw [hw]; exact ⟨by simp [go_sem], by simp [go_sem]⟩)
  have HSB : Hid (SB w0 w0.heap.size A n c zs) := Lib.hid (by rw [hw]; exact (HS.out.alloc0 _).alloc0 _)
  have HW0 : Hid (((w.alloc (.cells #[.slice none 0 0] 25)).alloc (.cells #[.slice none 0 0] 25)) = w0) := Lib.hid hw.symm
  have HB0 := Lib.hid hb
  clear hb hw HS
  go_enter Try.func35, Try.ntmps35
  go_wp2_with fail
  rw [HW0.out]
  refine (drawByName_any A n c zs _ HSB.out).mono ?_
  rintro e w1 ⟨Aa, ca, ds, Ab, cc, bs, s, rfl, hs, hna, hnb, hsa, hsb, hda, hdb, hb⟩
  have hzz := HB0.out.size
  obtain ⟨x0, y0⟩ := X0_0.out.below hb
  obtain ⟨x1, y1⟩ := X1_0.out.below hb
  have HB1 : Hid (Below w.heap.size w w1) := Lib.hid (HB0.out.trans (hb.mono HB0.out.size))
  have HA4 := Lib.hid hda
  have HB4 := Lib.hid hdb
  have hd1 : ¬ w.heap.size + 1 = w.heap.size := by omega
  have hd2 : ¬ w.heap.size = w.heap.size + 1 := by omega
  clear hb hda hdb
  go_wp2
  refine bodyPost_ret (v := .tuple #[.agg #[.slice Aa ds.length ca], .agg #[.slice Ab bs.length cc], .string s]) (by simp [results, Try.results35, go_sem, x0, x1, hd1, hd2]) rfl ⟨Aa, ca, ds, Ab, cc, bs, s, rfl, hs, hna, hnb, hsa, hsb, ?_, ?_, ?_⟩
  · exact own_base (own_setCell (own_setCell HA4.out (fun e => by have := (HA4.out.lt _ e).1; simp only at this; omega) _) (fun e => by have := (HA4.out.lt _ e).1; simp only at this; omega) _) (by omega)
  · exact own_base (own_setCell (own_setCell HB4.out (fun e => by have := (HB4.out.lt _ e).1; simp only at this; omega) _) (fun e => by have := (HB4.out.lt _ e).1; simp only at this; omega) _) (by omega)
  · exact (HB1.out.setCell (by simp) _).setCell (by simp) _
theorem drawByValue_s (A : Option Addr) (n c : Nat) (zs : List Int) (w : World) (h : SB w w.heap.size A n c zs) : Calls Try.prog 35 #[.slice A n c] w (DrawEESs w) := (drawByValue_any A n c zs w h).mono fun _ _ h => drawEES_s h
theorem drawByName_s (A : Option Addr) (n c : Nat) (zs : List Int) (w : World) (h : SB w w.heap.size A n c zs) : Calls Try.prog 31 #[.slice A n c] w (DrawEESs w) := (drawByName_any A n c zs w h).mono fun _ _ h => drawEES_s h
end Go.Proofs.Ytcbhfaijlmckbaa
