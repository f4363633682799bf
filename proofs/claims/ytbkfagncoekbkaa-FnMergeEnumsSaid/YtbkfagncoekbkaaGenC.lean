import Derived.Test.YtbkfagncoekbkaaGenU
import Derived.Test.YtbkfagncoekbkaaEdit2
import Derived.Deep.DeepCutAuto
namespace Go.Proofs.Ytbkfagncoekbkaa
open Go.RowKit
set_option linter.unusedVariables false
set_option linter.unusedSimpArgs false
set_option maxRecDepth 100000

theorem clSetc {w : World} {b : Nat} {v u : Value} (h : Cl w b v) : Cl (w.setCell ⟨b, 0, none⟩ u) b u := ⟨World.cell?_setCell_same' _ _ _ (by rw [h.1]; rfl), by rw [World.frozen?_setCell]; exact h.2⟩
theorem clSetOc {w : World} {b b' o : Nat} {v u : Value} (h : Cl w b v) (hne : b' ≠ b) : Cl (w.setCell ⟨b', o, none⟩ u) b v :=
  ⟨(World.cell?_setCell_other _ _ _ _ (by intro e; injection e with e; exact hne e)).trans h.1, by rw [World.frozen?_setCell]; exact h.2⟩
theorem clLowC {w w' : World} {b L : Nat} {v : Value} (h : Cl w b v) (hb : Below L w w') (hlt : b < L) : Cl w' b v :=
  ⟨(hb.cell (p := ⟨b, 0, none⟩) hlt).trans h.1, (hb.frozen (p := ⟨b, 0, none⟩) hlt).trans h.2⟩
theorem ownLowC {w w' : World} {base L : Nat} {e : TypeId} {sz : Nat} {v : Value} {n : Nat} {xs : List Value} (h : w.ownsRow base e sz v n xs) (hb : Below L w w') (hlt : ∀ q, v.ownBlock = some q → q < L) : w'.ownsRow base e sz v n xs := by
  refine ⟨h.1, ?_⟩
  rcases h.2 with hn | ⟨g, cap, cur, rfl, h1, hg, rest⟩
  · exact .inl hn
  · exact .inr ⟨g, cap, cur, rfl, h1, (hb.block g (hlt g rfl)).trans hg, rest⟩
theorem ownDrew {w : World} {base : Nat} {e : TypeId} {sz : Nat} {v : Value} {n : Nat} {xs : List Value} (h : w.ownsRow base e sz v n xs) : w.drew.ownsRow base e sz v n xs := h
theorem growDrew {w w' : World} {row : Option Nat} (h : w.grownBy w' row) : w.grownBy w'.drew row := ⟨h.os, h.tape, h.output, h.size, h.block⟩
theorem rdrDrew {w : World} {R B : Nat} {A : Option Addr} {cb : Nat} {zs : List Int} {p : Nat} (h : Rdr w R B A cb zs p) : Rdr w.drew R B A cb zs p := h.drewN 1
theorem specVEc_v (ds : List D) (A : Option Addr) (c n : Nat) (w : World) (hr : SD w w.heap.size A n c ds) {v : Bool} (hv : vEnum ds = v) :
    Calls Try.prog 105 #[.agg #[.slice A n c]] w fun e w' => e = .returned (.bool v) ∧ Below w.heap.size w w' := hv ▸ specVE1 ds A c n w hr
/-- Two drawn enumerations. -/
def TwoP (R B : Nat) (A : Option Addr) (cb : Nat) (zs : List Int) (p : Nat) (w : World) (e : Ending) (w' : World) : Prop :=
  ∃ (Aa : Option Addr) (ca : Nat) (ds : List D) (Ab : Option Addr) (cc : Nat) (bs : List D) (p' : Nat), e = .returned (.tuple #[.agg #[.slice Aa ds.length ca], .agg #[.slice Ab bs.length cc]]) ∧ ds.length ≤ 25 ∧ bs.length ≤ 12 ∧ (∀ d ∈ ds, d.small) ∧ (∀ d ∈ bs, d.small) ∧
    w'.ownsRow w.heap.size 37 2 (.slice Aa ds.length ca) ds.length (flat ds) ∧ w'.ownsRow w.heap.size 37 2 (.slice Ab bs.length cc) bs.length (flat bs) ∧ p' ≤ p + 300 ∧ w.grownBy w' (some R) ∧ Rdr w' R B A cb zs p'
set_option maxHeartbeats 16000000 in
theorem twoEnums_any (R B : Nat) (A : Option Addr) (cb : Nat) (zs : List Int) (p : Nat) (w : World) (h : Rdr w R B A cb zs p) (hp : p + 300 ≤ 100000) :
    Calls Try.prog 110 #[.pointer (some ⟨R, 0, none⟩)] w (TwoP R B A cb zs p w) := by
  have hRl : R < w.heap.size := h.lt
  obtain ⟨w0, hw⟩ : ∃ W : World, W = ((w.alloc (.cells #[.slice none 0 0] 58)).alloc (.cells #[.slice none 0 0] 58)) := ⟨_, rfl⟩
  have hb : Below w.heap.size w w0 := by rw [hw]; exact (((Below.refl _ _).alloc (by first | exact Nat.le_refl _ | (simp; done) | (simp; omega)) _).alloc (by first | exact Nat.le_refl _ | (simp; done) | (simp; omega)) _)
  have hs0 : w0.heap.size = w.heap.size + 2 := by rw [hw]; simp
  have X0_0 : Hid (Cl w0 w.heap.size (.slice none 0 0)) := Lib.hid (by rw [hw]; exact ⟨by simp [go_sem], by simp [go_sem]⟩)
  have X1_0 : Hid (Cl w0 (w.heap.size + 1) (.slice none 0 0)) := Lib.hid (by rw [hw]; exact ⟨by simp [go_sem], by simp [go_sem]⟩)
  have HR_0 := Lib.hid (h.below hb)
  have HG_0 : Hid (w.grownBy w0 (some R)) := Lib.hid (grown_of_below hb _)
  have HW0 : Hid (((w.alloc (.cells #[.slice none 0 0] 58)).alloc (.cells #[.slice none 0 0] 58)) = w0) := Lib.hid hw.symm
  clear hb hw h
  have hd1 : ¬ w.heap.size + 1 = w.heap.size := by omega
  have hd2 : ¬ w.heap.size = w.heap.size + 1 := by omega
  go_enter Try.func110, Try.ntmps110
  go_wp2_with fail
  rw [HW0.out]
  refine (someEnum_any R B A cb zs p _ HR_0.out (by omega)).mono ?_
  rintro e w1 ⟨Aa, ca, ds, p1, rfl, hna, hsa, hoa, hp1, hg, hr⟩
  have HSa := Lib.hid hsa
  have X0_1 := Lib.hid (X0_0.out.grown hg (fun e => by injection e with e; omega))
  have X1_1 := Lib.hid (X1_0.out.grown hg (fun e => by injection e with e; omega))
  have HG_1 : Hid (w.grownBy w1 (some R)) := Lib.hid (HG_0.out.trans hg)
  have HR_1 := Lib.hid hr
  have hz1 : w0.heap.size ≤ w1.heap.size := hg.size
  clear hg hr
  clear X0_0 X1_0 HG_0 HR_0
  have HD_1 := Lib.hid hoa
  have HDC1 : Hid (∀ q, (Value.slice Aa ds.length ca).ownBlock = some q → q < w1.heap.size) := Lib.hid (fun q hq => (hoa.lt q hq).2)
  clear hoa hsa
  obtain ⟨w2, hw⟩ : ∃ W : World, W = (w1.alloc (.cells #[.slice Aa ds.length ca] 58)) := ⟨_, rfl⟩
  have hb : Below w1.heap.size w1 w2 := by rw [hw]; exact (Below.refl _ _).alloc (Nat.le_refl _) _
  have ht2 : w2.heap.size = w1.heap.size + 1 := by rw [hw]; simp
  have X0_2 := Lib.hid (X0_1.out.below hb)
  have X1_2 := Lib.hid (X1_1.out.below hb)
  have HD_2 := Lib.hid (own_below HD_1.out hb)
  have HG_2 : Hid (w.grownBy w2 (some R)) := Lib.hid (grown_below HG_1.out (hb.mono HG_1.out.size))
  have HR_2 := Lib.hid (HR_1.out.below hb)
  have hz2 : w1.heap.size ≤ w2.heap.size := hb.size
  have HW2 : Hid ((w1.alloc (.cells #[.slice Aa ds.length ca] 58)) = w2) := Lib.hid hw.symm
  clear hb
  clear X0_1 X1_1 HD_1 HG_1 HR_1
  have PA_2 : Hid (Cl w2 w1.heap.size (.slice Aa ds.length ca)) := Lib.hid (by rw [hw]; exact ⟨by simp [go_sem], by simp [go_sem]⟩)
  clear hw
  go_wp2_with fail
  rw [HW2.out]
  refine (goodEnum_any R B A cb zs p1 _ HR_2.out (by omega)).mono ?_
  rintro e w3 ⟨Ab, cc, bs, p4, rfl, hnb, hsb, hob, hp4, hg, hr⟩
  have HSb := Lib.hid hsb
  have X0_3 := Lib.hid (X0_2.out.grown hg (fun e => by injection e with e; omega))
  have X1_3 := Lib.hid (X1_2.out.grown hg (fun e => by injection e with e; omega))
  have PA_3 := Lib.hid (PA_2.out.grown hg (fun e => by injection e with e; omega))
  have HD_3 := Lib.hid (HD_2.out.kept hg (own_neR HD_2.out (by omega)))
  have HG_3 : Hid (w.grownBy w3 (some R)) := Lib.hid (HG_2.out.trans hg)
  have HR_3 := Lib.hid hr
  have hz3 : w2.heap.size ≤ w3.heap.size := hg.size
  clear hg hr
  clear X0_2 X1_2 PA_2 HD_2 HG_2 HR_2
  have HE_3 := Lib.hid hob
  have HEC3 : Hid (∀ q, (Value.slice Ab bs.length cc).ownBlock = some q → w2.heap.size ≤ q ∧ q < w3.heap.size) := Lib.hid (fun q hq => hob.lt q hq)
  clear hob hsb
  obtain ⟨w4, hw⟩ : ∃ W : World, W = (w3.alloc (.cells #[.slice Ab bs.length cc] 58)) := ⟨_, rfl⟩
  have hb : Below w3.heap.size w3 w4 := by rw [hw]; exact (Below.refl _ _).alloc (Nat.le_refl _) _
  have ht4 : w4.heap.size = w3.heap.size + 1 := by rw [hw]; simp
  have X0_4 := Lib.hid (X0_3.out.below hb)
  have X1_4 := Lib.hid (X1_3.out.below hb)
  have PA_4 := Lib.hid (PA_3.out.below hb)
  have HD_4 := Lib.hid (own_below HD_3.out hb)
  have HE_4 := Lib.hid (own_below HE_3.out hb)
  have HG_4 : Hid (w.grownBy w4 (some R)) := Lib.hid (grown_below HG_3.out (hb.mono HG_3.out.size))
  have HR_4 := Lib.hid (HR_3.out.below hb)
  have hz4 : w3.heap.size ≤ w4.heap.size := hb.size
  have HW4 : Hid ((w3.alloc (.cells #[.slice Ab bs.length cc] 58)) = w4) := Lib.hid hw.symm
  clear hb
  clear X0_3 X1_3 PA_3 HD_3 HE_3 HG_3 HR_3
  have PB_4 : Hid (Cl w4 w3.heap.size (.slice Ab bs.length cc)) := Lib.hid (by rw [hw]; exact ⟨by simp [go_sem], by simp [go_sem]⟩)
  have lfa : (w3.alloc (.cells #[.slice Ab bs.length cc] 58)).cell? ⟨w1.heap.size, 0, none⟩ = some (.slice Aa ds.length ca) := by rw [← hw]; exact PA_4.out.1
  clear hw
  have HSD := Lib.hid (sd_of_own HD_4.out (fun d hd => small_ok (HSa.out d hd)))
  obtain ⟨vv, hv⟩ : ∃ v, vEnum ds = v := ⟨_, rfl⟩
  have HV := Lib.hid hv
  go_wp2_with fail
  rw [HW4.out]
  clear lfa HW4
  refine (specVEc_v ds _ _ _ _ HSD.out HV.out).mono ?_
  rintro e w5 ⟨rfl, hb⟩
  have X0_5 := Lib.hid (X0_4.out.below hb)
  have X1_5 := Lib.hid (X1_4.out.below hb)
  have PA_5 := Lib.hid (PA_4.out.below hb)
  have PB_5 := Lib.hid (PB_4.out.below hb)
  have HD_5 := Lib.hid (own_below HD_4.out hb)
  have HE_5 := Lib.hid (own_below HE_4.out hb)
  have HG_5 : Hid (w.grownBy w5 (some R)) := Lib.hid (grown_below HG_4.out (hb.mono HG_4.out.size))
  have HR_5 := Lib.hid (HR_4.out.below hb)
  have hz5 : w4.heap.size ≤ w5.heap.size := hb.size
  clear hb HSD
  clear X0_4 X1_4 PA_4 PB_4 HD_4 HE_4 HG_4 HR_4
  clear HW2 HW0
  have HE_5 := Lib.hid (own_base HE_5.out (show w.heap.size + 2 ≤ w2.heap.size by omega))
  generalize w1.heap.size = C at *
  generalize w3.heap.size = C2 at *
  obtain ⟨G, hG⟩ : ∃ C, w4.heap.size = C := ⟨_, rfl⟩
  have c1 : w.heap.size + 2 ≤ C := by omega
  have c2 : C < C2 := by omega
  have c3 : C2 < G := by omega
  have HDC : Hid (∀ q, (Value.slice Aa ds.length ca).ownBlock = some q → q < C) := HDC1
  have hz5' : G ≤ w5.heap.size := by omega
  clear hG HDC1 HEC3 ht2 ht4 hz2 hz3 hz4 hz5 hz1
  have n1 : C ≠ w.heap.size := by omega
  have n2 : C ≠ w.heap.size + 1 := by omega
  have n3 : C2 ≠ w.heap.size := by omega
  have n4 : C2 ≠ w.heap.size + 1 := by omega
  have n5 : w.heap.size ≠ C := by omega
  have n6 : w.heap.size + 1 ≠ C := by omega
  have n7 : w.heap.size ≠ C2 := by omega
  have n8 : w.heap.size + 1 ≠ C2 := by omega
  cases vv
  · skip
    clear hv
    have pa := PA_5.out.1
    have pb := PB_5.out.1
    obtain ⟨x0, f0⟩ := id X0_5.out
    obtain ⟨x1, f1⟩ := id X1_5.out
    go_upto_region 16 with fail
    try rw [HW5.out]
    go_region_held3 (fun w' => w'.cell? ⟨C, 0, none⟩ = some (.slice Aa ds.length ca) ∧ w'.cell? ⟨C2, 0, none⟩ = some (.slice Ab bs.length cc)) (first | exact ⟨pa, pb⟩ | go_keep) (fail)
    all_goals
      go_wp2
      refine bodyPost_ret (v := .tuple #[.agg #[.slice Aa ds.length ca], .agg #[.slice Ab bs.length cc]]) (by simp [results, Try.results110, go_sem, x0, x1, hd1, hd2]) rfl ⟨Aa, ca, ds, Ab, cc, bs, p4, rfl, hna, hnb, HSa.out, HSb.out, ?_, ?_, by omega, ?_, ?_⟩
      · exact own_base (own_setCell (own_setCell (ownDrew HD_5.out) (fun e => by have h1 := (HD_5.out.lt _ e).1; simp only at h1; omega) _) (fun e => by have h1 := (HD_5.out.lt _ e).1; simp only at h1; omega) _) (by omega)
      · exact own_base (own_setCell (own_setCell (ownDrew HE_5.out) (fun e => by have h1 := (HE_5.out.lt _ e).1; simp only at h1; omega) _) (fun e => by have h1 := (HE_5.out.lt _ e).1; simp only at h1; omega) _) (by omega)
      · exact grown_set (grown_set (growDrew HG_5.out) (by simp) _) (by simp) _
      · exact ((rdrDrew HR_5.out).set (by simp only; omega) _).set (by simp only; omega) _
  have hla : ds.length ≤ 12 := vEnum_len hv
  clear hv
  go_wp2_with fail
  refine (pick_any 3 R B A cb zs p4 _ HR_5.out (by omega) (by omega) (by omega)).mono ?_
  rintro e w6 ⟨r, rfl, r0, r1, hg, hr⟩
  clear r1
  have X0_6 := Lib.hid (X0_5.out.grown hg (fun e => by injection e with e; omega))
  have X1_6 := Lib.hid (X1_5.out.grown hg (fun e => by injection e with e; omega))
  have PA_6 := Lib.hid (PA_5.out.grown hg (fun e => by injection e with e; omega))
  have PB_6 := Lib.hid (PB_5.out.grown hg (fun e => by injection e with e; omega))
  have HD_6 := Lib.hid (HD_5.out.kept hg (own_neR HD_5.out (by omega)))
  have HE_6 := Lib.hid (HE_5.out.kept hg (own_neR HE_5.out (by omega)))
  have HG_6 : Hid (w.grownBy w6 (some R)) := Lib.hid (HG_5.out.trans hg)
  have HR_6 := Lib.hid hr
  have hz6 : w5.heap.size ≤ w6.heap.size := hg.size
  clear hg hr
  clear X0_5 X1_5 PA_5 PB_5 HD_5 HE_5 HG_5 HR_5
  have hz6' : G ≤ w6.heap.size := by omega
  by_cases hr0 : 0 < r
  · skip
    have HSD := Lib.hid (sd_of_own HD_6.out (fun d hd => small_ok (HSa.out d hd)))
    have pa := PA_6.out.1
    go_wp2_with fail
    refine (copyDefs_n ds _ _ _ _ HSD.out (by omega)).mono ?_
    rintro e w7 ⟨Ac, cd, rfl, hoc, hb⟩
    clear HSD pa
    have X0_7 := Lib.hid (X0_6.out.below hb)
    have X1_7 := Lib.hid (X1_6.out.below hb)
    have PA_7 := Lib.hid (PA_6.out.below hb)
    have PB_7 := Lib.hid (PB_6.out.below hb)
    have HD_7 := Lib.hid (own_below HD_6.out hb)
    have HG_7 : Hid (w.grownBy w7 (some R)) := Lib.hid (grown_below HG_6.out (hb.mono HG_6.out.size))
    have HR_7 := Lib.hid (HR_6.out.below hb)
    have hz7 : w6.heap.size ≤ w7.heap.size := hb.size
    have HE_7 : Hid (w7.ownsRow G 37 2 (.slice Ac ds.length cd) ds.length (flat ds)) := Lib.hid (own_base hoc hz6')
    clear hb hoc HE_6
    clear X0_6 X1_6 PA_6 PB_6 HD_6 HG_6 HR_6
    obtain ⟨pb, fb⟩ := id PB_7.out
    have HPB := Lib.hid (And.intro pb fb)
    obtain ⟨w8, hw⟩ : ∃ W : World, W = (w7.setCell ⟨C2, 0, none⟩ (.slice Ac ds.length cd)) := ⟨_, rfl⟩
    have X0_8 := Lib.hid (show Cl w8 _ _ by rw [hw]; exact clSetOc X0_7.out (by omega))
    have X1_8 := Lib.hid (show Cl w8 _ _ by rw [hw]; exact clSetOc X1_7.out (by omega))
    have PA_8 := Lib.hid (show Cl w8 _ _ by rw [hw]; exact clSetOc PA_7.out (by omega))
    have PB_8 : Hid (Cl w8 C2 (.slice Ac ds.length cd)) := Lib.hid (by rw [hw]; exact clSetc PB_7.out)
    have HD_8 := Lib.hid (show w8.ownsRow _ _ _ _ _ _ by rw [hw]; exact own_setCell HD_7.out (fun e => by have h1 := HDC.out _ e; simp only at h1; omega) _)
    have HE_8 := Lib.hid (show w8.ownsRow _ _ _ _ _ _ by rw [hw]; exact own_setCell HE_7.out (fun e => by have h1 := (HE_7.out.lt _ e).1; simp only at h1; omega) _)
    have HG_8 : Hid (w.grownBy w8 (some R)) := Lib.hid (by rw [hw]; exact grown_set HG_7.out (by simp only; omega) _)
    have HR_8 := Lib.hid (show Rdr w8 _ _ _ _ _ _ by rw [hw]; exact HR_7.out.set (by simp only; omega) _)
    have hz8 : w7.heap.size ≤ w8.heap.size := by rw [hw]; simp
    have HW8 : Hid ((w7.setCell ⟨C2, 0, none⟩ (.slice Ac ds.length cd)) = w8) := Lib.hid hw.symm
    clear hw
    clear X0_7 X1_7 PA_7 PB_7 HD_7 HE_7 HG_7 HR_7
    have hz8' : G ≤ w8.heap.size := by omega
    go_wp2_with fail
    rw [HW8.out]
    clear pb fb HPB HW8
    refine (pick_any 4 R B A cb zs (p4 + 1) _ HR_8.out (by omega) (by omega) (by omega)).mono ?_
    rintro e w9 ⟨n, rfl, n0, n1', hg, hr⟩
    obtain ⟨n, rfl⟩ := Int.eq_ofNat_of_zero_le n0
    have hn4 := n1' (by omega)
    clear n0 n1'
    have X0_9 := Lib.hid (X0_8.out.grown hg (fun e => by injection e with e; omega))
    have X1_9 := Lib.hid (X1_8.out.grown hg (fun e => by injection e with e; omega))
    have PA_9 := Lib.hid (PA_8.out.grown hg (fun e => by injection e with e; omega))
    have PB_9 := Lib.hid (PB_8.out.grown hg (fun e => by injection e with e; omega))
    have HD_9 := Lib.hid (HD_8.out.kept hg (own_neR HD_8.out (by omega)))
    have HE_9 := Lib.hid (HE_8.out.kept hg (own_neR HE_8.out (by omega)))
    have HG_9 : Hid (w.grownBy w9 (some R)) := Lib.hid (HG_8.out.trans hg)
    have HR_9 := Lib.hid hr
    have hz9 : w8.heap.size ≤ w9.heap.size := hg.size
    clear hg hr
    clear X0_8 X1_8 PA_8 PB_8 HD_8 HE_8 HG_8 HR_8
    have hz9' : G ≤ w9.heap.size := by omega
    clear hz6 hz7 hz8 hz9 hz6' hz8' hz5'
    go_wp2
    go_loopw [6] (fun i wr => ∃ (m : Nat) (As : Option Addr) (cs : Nat) (es : List D) (p' : Nat), i = .int .i64 m ∧ m ≤ 3 ∧ es.length ≤ 12 ∧ p' + 6 * m ≤ p4 + 20 ∧ G ≤ wr.heap.size ∧ Hid (∀ d ∈ es, d.small) ∧ Hid (Cl wr w.heap.size (.slice none 0 0)) ∧ Hid (Cl wr (w.heap.size + 1) (.slice none 0 0)) ∧ Hid (Cl wr C (.slice Aa ds.length ca)) ∧ Hid (Cl wr C2 (.slice As es.length cs)) ∧ Hid (wr.ownsRow w0.heap.size 37 2 (.slice Aa ds.length ca) ds.length (flat ds)) ∧ Hid (wr.ownsRow G 37 2 (.slice As es.length cs) es.length (flat es)) ∧ Hid (w.grownBy wr (some R)) ∧ Hid (Rdr wr R B A cb zs p')) (fun i _ => (intOf i).toNat)
    case atStart => exact ⟨n, Ac, cd, ds, p4 + 1 + 1, rfl, by omega, hla, by omega, hz9', HSa, X0_9, X1_9, PA_9, PB_9, HD_9, HE_9, HG_9, HR_9⟩
    case round =>
      clear X0_9 X1_9 PA_9 PB_9 HD_9 HE_9 HG_9 HR_9 hz9' hn4
      obtain ⟨m, As, cs, es, p2, rfl, hm, hes, hpp, hz10', HS, X0_w, X1_w, PA_w, PB_w, HD_w, HE_w, HG_w, HR_w⟩ := hrel
      obtain ⟨w10, hwn⟩ : ∃ W : World, W = wr := ⟨_, rfl⟩
      subst hwn
      have X0_10 := X0_w
      have X1_10 := X1_w
      have PA_10 := PA_w
      have PB_10 := PB_w
      have HD_10 := HD_w
      have HE_10 := HE_w
      have HG_10 := HG_w
      have HR_10 := HR_w
      clear X0_w X1_w PA_w PB_w HD_w HE_w HG_w HR_w
      by_cases h0 : m = 0
      · subst h0
        have pa := PA_10.out.1
        have pb := PB_10.out.1
        obtain ⟨x0, f0⟩ := id X0_10.out
        obtain ⟨x1, f1⟩ := id X1_10.out
        go_upto_region 16 with fail
        try rw [HW10.out]
        go_region_held3 (fun w' => w'.cell? ⟨C, 0, none⟩ = some (.slice Aa ds.length ca) ∧ w'.cell? ⟨C2, 0, none⟩ = some (.slice As es.length cs)) (first | exact ⟨pa, pb⟩ | go_keep) (fail)
        all_goals
          go_wp2
          refine bodyPost_ret (v := .tuple #[.agg #[.slice Aa ds.length ca], .agg #[.slice As es.length cs]]) (by simp [results, Try.results110, go_sem, x0, x1, hd1, hd2]) rfl ⟨Aa, ca, ds, As, cs, es, p2, rfl, hna, hes, HSa.out, HS.out, ?_, ?_, by omega, ?_, ?_⟩
          · exact own_base (own_setCell (own_setCell (ownDrew HD_10.out) (fun e => by have h1 := (HD_10.out.lt _ e).1; simp only at h1; omega) _) (fun e => by have h1 := (HD_10.out.lt _ e).1; simp only at h1; omega) _) (by omega)
          · exact own_base (own_setCell (own_setCell (ownDrew HE_10.out) (fun e => by have h1 := (HE_10.out.lt _ e).1; simp only at h1; omega) _) (fun e => by have h1 := (HE_10.out.lt _ e).1; simp only at h1; omega) _) (by omega)
          · exact grown_set (grown_set (growDrew HG_10.out) (by simp) _) (by simp) _
          · exact ((rdrDrew HR_10.out).set (by simp only; omega) _).set (by simp only; omega) _
      obtain ⟨m, rfl⟩ : ∃ q, m = q + 1 := ⟨m - 1, by omega⟩
      clear h0
      have hk1 : (0 : Int) < ((m + 1 : Nat) : Int) := by omega
      have pb := PB_10.out.1
      have hlw : IntKind.i64.wrap ((es.length : Int) + 1) = (es.length : Int) + 1 := by rw [IntKind.wrap_i64]; omega
      go_wp2_with fail
      refine (pick_any ((es.length : Int) + 1) R B A cb zs p2 _ HR_10.out (by omega) (by omega) (by omega)).mono ?_
      rintro e w11 ⟨kk, rfl, k0, k1, hg, hr⟩
      obtain ⟨kk, rfl⟩ := Int.eq_ofNat_of_zero_le k0
      have hkk := k1 (by omega)
      clear k0 k1 pb hlw
      have X0_11 := Lib.hid (X0_10.out.grown hg (fun e => by injection e with e; omega))
      have X1_11 := Lib.hid (X1_10.out.grown hg (fun e => by injection e with e; omega))
      have PA_11 := Lib.hid (PA_10.out.grown hg (fun e => by injection e with e; omega))
      have PB_11 := Lib.hid (PB_10.out.grown hg (fun e => by injection e with e; omega))
      have HD_11 := Lib.hid (HD_10.out.kept hg (own_neR HD_10.out (by omega)))
      have HE_11 := Lib.hid (HE_10.out.kept hg (own_neR HE_10.out (by omega)))
      have HG_11 : Hid (w.grownBy w11 (some R)) := Lib.hid (HG_10.out.trans hg)
      have HR_11 := Lib.hid hr
      have hz11 : w10.heap.size ≤ w11.heap.size := hg.size
      clear hg hr
      clear X0_10 X1_10 PA_10 PB_10 HD_10 HE_10 HG_10 HR_10
      go_wp2_with fail
      refine (aName_any R B A cb zs (p2 + 1) _ HR_11.out (by omega)).mono ?_
      rintro e w12 ⟨s, rfl, hsz, hg, hr⟩
      have X0_12 := Lib.hid (X0_11.out.grown hg (fun e => by injection e with e; omega))
      have X1_12 := Lib.hid (X1_11.out.grown hg (fun e => by injection e with e; omega))
      have PA_12 := Lib.hid (PA_11.out.grown hg (fun e => by injection e with e; omega))
      have PB_12 := Lib.hid (PB_11.out.grown hg (fun e => by injection e with e; omega))
      have HD_12 := Lib.hid (HD_11.out.kept hg (own_neR HD_11.out (by omega)))
      have HE_12 := Lib.hid (HE_11.out.kept hg (own_neR HE_11.out (by omega)))
      have HG_12 : Hid (w.grownBy w12 (some R)) := Lib.hid (HG_11.out.trans hg)
      have HR_12 := Lib.hid hr
      have hz12 : w11.heap.size ≤ w12.heap.size := hg.size
      clear hg hr
      clear X0_11 X1_11 PA_11 PB_11 HD_11 HE_11 HG_11 HR_11
      obtain ⟨w13, hw⟩ : ∃ W : World, W = (w12.alloc (.cells #[.int .i64 1, .int .i64 2, .int .i64 3, .int .i64 9, .int .i64 0] 3)) := ⟨_, rfl⟩
      have hb : Below w12.heap.size w12 w13 := by rw [hw]; exact (Below.refl _ _).alloc (Nat.le_refl _) _
      have ht13 : w13.heap.size = w12.heap.size + 1 := by rw [hw]; simp
      have X0_13 := Lib.hid (X0_12.out.below hb)
      have X1_13 := Lib.hid (X1_12.out.below hb)
      have PA_13 := Lib.hid (PA_12.out.below hb)
      have PB_13 := Lib.hid (PB_12.out.below hb)
      have HD_13 := Lib.hid (own_below HD_12.out hb)
      have HE_13 := Lib.hid (own_below HE_12.out hb)
      have HG_13 : Hid (w.grownBy w13 (some R)) := Lib.hid (grown_below HG_12.out (hb.mono HG_12.out.size))
      have HR_13 := Lib.hid (HR_12.out.below hb)
      have hz13 : w12.heap.size ≤ w13.heap.size := hb.size
      have HW13 : Hid ((w12.alloc (.cells #[.int .i64 1, .int .i64 2, .int .i64 3, .int .i64 9, .int .i64 0] 3)) = w13) := Lib.hid hw.symm
      clear hb
      clear X0_12 X1_12 PA_12 PB_12 HD_12 HE_12 HG_12 HR_12
      clear hw
      go_wp2_with fail
      rw [HW13.out]
      refine (one_any 0 9 R B A cb zs (p2 + 1 + 1) w12.heap.size 5 5 _ HR_13.out (by omega) (by omega) (by omega) (by omega) (by have := HW13.out; rw [← this]; exact litI rfl rfl (by simp [allI]))).mono ?_
      rintro e w14 ⟨v, rfl, v0, v1, hg, hr⟩
      have X0_14 := Lib.hid (X0_13.out.grown hg (fun e => by injection e with e; omega))
      have X1_14 := Lib.hid (X1_13.out.grown hg (fun e => by injection e with e; omega))
      have PA_14 := Lib.hid (PA_13.out.grown hg (fun e => by injection e with e; omega))
      have PB_14 := Lib.hid (PB_13.out.grown hg (fun e => by injection e with e; omega))
      have HD_14 := Lib.hid (HD_13.out.kept hg (own_neR HD_13.out (by omega)))
      have HE_14 := Lib.hid (HE_13.out.kept hg (own_neR HE_13.out (by omega)))
      have HG_14 : Hid (w.grownBy w14 (some R)) := Lib.hid (HG_13.out.trans hg)
      have HR_14 := Lib.hid hr
      have hz14 : w13.heap.size ≤ w14.heap.size := hg.size
      clear hg hr
      clear X0_13 X1_13 PA_13 PB_13 HD_13 HE_13 HG_13 HR_13
      obtain ⟨w15, hw⟩ : ∃ W : World, W = (w14.alloc (.cells #[.string s, .int .i64 v] 37)) := ⟨_, rfl⟩
      have hb : Below w14.heap.size w14 w15 := by rw [hw]; exact (Below.refl _ _).alloc (Nat.le_refl _) _
      have ht15 : w15.heap.size = w14.heap.size + 1 := by rw [hw]; simp
      have X0_15 := Lib.hid (X0_14.out.below hb)
      have X1_15 := Lib.hid (X1_14.out.below hb)
      have PA_15 := Lib.hid (PA_14.out.below hb)
      have PB_15 := Lib.hid (PB_14.out.below hb)
      have HD_15 := Lib.hid (own_below HD_14.out hb)
      have HE_15 := Lib.hid (own_below HE_14.out hb)
      have HG_15 : Hid (w.grownBy w15 (some R)) := Lib.hid (grown_below HG_14.out (hb.mono HG_14.out.size))
      have HR_15 := Lib.hid (HR_14.out.below hb)
      have hz15 : w14.heap.size ≤ w15.heap.size := hb.size
      have HW15 : Hid ((w14.alloc (.cells #[.string s, .int .i64 v] 37)) = w15) := Lib.hid hw.symm
      clear hb
      clear X0_14 X1_14 PA_14 PB_14 HD_14 HE_14 HG_14 HR_14
      have d0_15 : w15.cell? ⟨w14.heap.size, 0, none⟩ = some (.string s) := by rw [hw]; simp [go_sem]
      have d1_15 : w15.cell? ⟨w14.heap.size, 1, none⟩ = some (.int .i64 v) := by rw [hw]; simp [go_sem]
      clear hw
      obtain ⟨Db, hDb⟩ : ∃ q, w14.heap.size = q := ⟨_, rfl⟩
      have hz15' : G ≤ w15.heap.size := by omega
      have hDG : G ≤ Db := by omega
      have HDB := Lib.hid hDb
      have lX0 : (w14.alloc (.cells #[.string s, .int .i64 v] 37)).cell? ⟨w.heap.size, 0, none⟩ = some (.slice none 0 0) := by rw [HW15.out]; exact X0_15.out.1
      have lX1 : (w14.alloc (.cells #[.string s, .int .i64 v] 37)).cell? ⟨w.heap.size + 1, 0, none⟩ = some (.slice none 0 0) := by rw [HW15.out]; exact X1_15.out.1
      have lPA : (w14.alloc (.cells #[.string s, .int .i64 v] 37)).cell? ⟨C, 0, none⟩ = some (.slice Aa ds.length ca) := by rw [HW15.out]; exact PA_15.out.1
      have lPB : (w14.alloc (.cells #[.string s, .int .i64 v] 37)).cell? ⟨C2, 0, none⟩ = some (.slice As es.length cs) := by rw [HW15.out]; exact PB_15.out.1
      have lF : (w14.alloc (.cells #[.string s, .int .i64 v] 37)).frozen? ⟨C2, 0, none⟩ = false := by rw [HW15.out]; exact PB_15.out.2
      clear hDb ht15 ht13
      by_cases hkl : (kk : Int) < (es.length : Int)
      · skip
        go_wp2_with fail
        rw [HW15.out]
        clear lX0 lX1 lPA lPB lF
        refine (pick_any 3 R B A cb zs (p2 + 1 + 1 + 1) _ HR_15.out (by omega) (by omega) (by omega)).mono ?_
        rintro e w16 ⟨r3, rfl, r30, r31, hg, hr⟩
        have d0_16 := hg.cell d0_15 (fun e => by have e2 : w14.heap.size = R := Option.some.inj e; omega)
        have d1_16 := hg.cell d1_15 (fun e => by have e2 : w14.heap.size = R := Option.some.inj e; omega)
        clear r31 d0_15 d1_15
        have X0_16 := Lib.hid (X0_15.out.grown hg (fun e => by injection e with e; omega))
        have X1_16 := Lib.hid (X1_15.out.grown hg (fun e => by injection e with e; omega))
        have PA_16 := Lib.hid (PA_15.out.grown hg (fun e => by injection e with e; omega))
        have PB_16 := Lib.hid (PB_15.out.grown hg (fun e => by injection e with e; omega))
        have HD_16 := Lib.hid (HD_15.out.kept hg (own_neR HD_15.out (by omega)))
        have HE_16 := Lib.hid (HE_15.out.kept hg (own_neR HE_15.out (by omega)))
        have HG_16 : Hid (w.grownBy w16 (some R)) := Lib.hid (HG_15.out.trans hg)
        have HR_16 := Lib.hid hr
        have hz16 : w15.heap.size ≤ w16.heap.size := hg.size
        clear hg hr
        clear X0_15 X1_15 PA_15 PB_15 HD_15 HE_15 HG_15 HR_15
        obtain ⟨pb, fb⟩ := id PB_16.out
        have hkn : kk < es.length := by omega
        by_cases hr3 : r3 = 0
        · subst hr3
          have HSDE := Lib.hid (sd_of_own HE_16.out (fun d hd => small_ok (HS.out d hd)))
          go_wp2_with fail
          refine (dropped_any es kk _ _ _ _ HSDE.out hkn (by omega)).mono ?_
          rintro e w17 ⟨An, cn, rfl, hoc, hb⟩
          clear pb fb HSDE
          have X0_17 := Lib.hid (X0_16.out.below hb)
          have X1_17 := Lib.hid (X1_16.out.below hb)
          have PA_17 := Lib.hid (PA_16.out.below hb)
          have PB_17 := Lib.hid (PB_16.out.below hb)
          have HD_17 := Lib.hid (own_below HD_16.out hb)
          have HG_17 : Hid (w.grownBy w17 (some R)) := Lib.hid (grown_below HG_16.out (hb.mono HG_16.out.size))
          have HR_17 := Lib.hid (HR_16.out.below hb)
          have hz17 : w16.heap.size ≤ w17.heap.size := hb.size
          have HE_17 : Hid (w17.ownsRow G 37 2 (.slice An (ers es kk).length cn) (ers es kk).length (flat (ers es kk))) := Lib.hid (own_base hoc (by omega))
          clear hb hoc HE_16
          clear X0_16 X1_16 PA_16 PB_16 HD_16 HG_16 HR_16
          obtain ⟨pb, fb⟩ := id PB_17.out
          have HPB := Lib.hid (And.intro pb fb)
          obtain ⟨w18, hw⟩ : ∃ W : World, W = (w17.setCell ⟨C2, 0, none⟩ (.slice An (ers es kk).length cn)) := ⟨_, rfl⟩
          have X0_18 := Lib.hid (show Cl w18 _ _ by rw [hw]; exact clSetOc X0_17.out (by omega))
          have X1_18 := Lib.hid (show Cl w18 _ _ by rw [hw]; exact clSetOc X1_17.out (by omega))
          have PA_18 := Lib.hid (show Cl w18 _ _ by rw [hw]; exact clSetOc PA_17.out (by omega))
          have PB_18 : Hid (Cl w18 C2 (.slice An (ers es kk).length cn)) := Lib.hid (by rw [hw]; exact clSetc PB_17.out)
          have HD_18 := Lib.hid (show w18.ownsRow _ _ _ _ _ _ by rw [hw]; exact own_setCell HD_17.out (fun e => by have h1 := HDC.out _ e; simp only at h1; omega) _)
          have HE_18 := Lib.hid (show w18.ownsRow _ _ _ _ _ _ by rw [hw]; exact own_setCell HE_17.out (fun e => by have h1 := (HE_17.out.lt _ e).1; simp only at h1; omega) _)
          have HG_18 : Hid (w.grownBy w18 (some R)) := Lib.hid (by rw [hw]; exact grown_set HG_17.out (by simp only; omega) _)
          have HR_18 := Lib.hid (show Rdr w18 _ _ _ _ _ _ by rw [hw]; exact HR_17.out.set (by simp only; omega) _)
          have hz18 : w17.heap.size ≤ w18.heap.size := by rw [hw]; simp
          have HW18 : Hid ((w17.setCell ⟨C2, 0, none⟩ (.slice An (ers es kk).length cn)) = w18) := Lib.hid hw.symm
          clear hw
          clear X0_17 X1_17 PA_17 PB_17 HD_17 HE_17 HG_17 HR_17
          have HEL := Lib.hid (ers_len es kk hkn)
          go_wp2
          skip
          go_roundw
          all_goals try rw [HW18.out]
          case rel => exact ⟨m, An, cn, (ers es kk), (p2 + 1 + 1 + 1 + 1), by go_num, by omega, by have := HEL.out; omega, by omega, by omega, (Lib.hid (fun d hd => HS.out d (ers_mem hd))), X0_18, X1_18, PA_18, PB_18, HD_18, HE_18, HG_18, HR_18⟩
          case measure => simp [intOf]
        go_wp2_with fail
        refine (pick_any 2 R B A cb zs (p2 + 1 + 1 + 1 + 1) _ HR_16.out (by omega) (by omega) (by omega)).mono ?_
        rintro e w17 ⟨r2, rfl, r20, r21, hg, hr⟩
        have d0_17 := hg.cell d0_16 (fun e => by have e2 : w14.heap.size = R := Option.some.inj e; omega)
        have d1_17 := hg.cell d1_16 (fun e => by have e2 : w14.heap.size = R := Option.some.inj e; omega)
        clear r21 d0_16 d1_16 pb fb
        have X0_17 := Lib.hid (X0_16.out.grown hg (fun e => by injection e with e; omega))
        have X1_17 := Lib.hid (X1_16.out.grown hg (fun e => by injection e with e; omega))
        have PA_17 := Lib.hid (PA_16.out.grown hg (fun e => by injection e with e; omega))
        have PB_17 := Lib.hid (PB_16.out.grown hg (fun e => by injection e with e; omega))
        have HD_17 := Lib.hid (HD_16.out.kept hg (own_neR HD_16.out (by omega)))
        have HE_17 := Lib.hid (HE_16.out.kept hg (own_neR HE_16.out (by omega)))
        have HG_17 : Hid (w.grownBy w17 (some R)) := Lib.hid (HG_16.out.trans hg)
        have HR_17 := Lib.hid hr
        have hz17 : w16.heap.size ≤ w17.heap.size := hg.size
        clear hg hr
        clear X0_16 X1_16 PA_16 PB_16 HD_16 HE_16 HG_16 HR_16
        by_cases hr2 : r2 = 0
        · subst hr2
          obtain ⟨pb, fb⟩ := id PB_17.out
          obtain ⟨g, hAs, hbg, hgl⟩ := own_addr HE_17.out (by omega)
          subst hAs
          have hf2 := HE_17.out.frozenAt (kk * 2 + 1)
          obtain ⟨y2, hx2⟩ := own_cell HE_17.out (kk * 2 + 1) (by omega)
          have hs2 := HE_17.out.stored (kk * 2 + 1) (.int .i64 v)
          have hcapE := (sd_of_own HE_17.out (fun d hd => small_ok (HS.out d hd))).cap
          have hmaxE := (sd_of_own HE_17.out (fun d hd => small_ok (HS.out d hd))).max
          unfold maxLen at hmaxE
          have hki0 : (0 : Int) ≤ (kk : Int) := by omega
          obtain ⟨w18, hw⟩ : ∃ W : World, W = (w17.setCell ⟨g, kk * 2 + 1, none⟩ (.int .i64 v)) := ⟨_, rfl⟩
          have hb : Below G w17 w18 := by rw [hw]; exact (Below.refl _ _).setCell hbg _
          have X0_18 := Lib.hid (clLowC X0_17.out hb (by omega))
          have X1_18 := Lib.hid (clLowC X1_17.out hb (by omega))
          have PA_18 := Lib.hid (clLowC PA_17.out hb (by omega))
          have PB_18 : Hid (Cl w18 C2 (.slice (some ⟨g, 0, none⟩) (es.set kk ⟨es[kk].name, v⟩).length cs)) := Lib.hid (by rw [List.length_set]; exact clLowC PB_17.out hb (by omega))
          have HD_18 := Lib.hid (ownLowC HD_17.out hb (fun q hq => by have := HDC.out q hq; omega))
          have HE_18 : Hid (w18.ownsRow G 37 2 (.slice (some ⟨g, 0, none⟩) (es.set kk ⟨es[kk].name, v⟩).length cs) (es.set kk ⟨es[kk].name, v⟩).length (flat (es.set kk ⟨es[kk].name, v⟩))) := Lib.hid (by rw [List.length_set, ← flat_set_val es kk hkn v, hw]; exact hs2.1)
          have HG_18 : Hid (w.grownBy w18 (some R)) := Lib.hid (grown_below HG_17.out (hb.mono (by omega)))
          have HR_18 := Lib.hid (HR_17.out.belowL hb (by omega))
          have hz18 : w17.heap.size ≤ w18.heap.size := hb.size
          have HW18 : Hid ((w17.setCell ⟨g, kk * 2 + 1, none⟩ (.int .i64 v)) = w18) := Lib.hid hw.symm
          clear hw hb hs2
          go_wp2
          skip
          go_roundw
          all_goals try rw [HW18.out]
          case rel => exact ⟨m, (some ⟨g, 0, none⟩), cs, (es.set kk ⟨es[kk].name, v⟩), (p2 + 1 + 1 + 1 + 1 + 1), by go_num, by omega, by rw [List.length_set]; omega, by omega, by omega, (Lib.hid (fun d hd => by rcases List.mem_or_eq_of_mem_set hd with h | h; exact HS.out d h; subst h; exact ⟨(HS.out _ (List.getElem_mem hkn)).1, by show (-5000 : Int) ≤ v; omega, by show v ≤ 5000; omega⟩)), X0_18, X1_18, PA_18, PB_18, HD_18, HE_18, HG_18, HR_18⟩
          case measure => simp [intOf]
        have HSDE := Lib.hid (sd_of_own HE_17.out (fun d hd => small_ok (HS.out d hd)))
        obtain ⟨ix, hix⟩ : ∃ ix, fidx (isNm s) es = ix := ⟨_, rfl⟩
        have HIX := Lib.hid hix
        clear hix
        obtain ⟨pb, fb⟩ := id PB_17.out
        have d0 := d0_17
        have d1 := d1_17
        by_cases hx1 : ix < 0
        · skip
          go_wp2_with fail
          refine (indexOf_v es s _ _ _ _ HSDE.out HIX.out).mono ?_
          rintro e wz ⟨rfl, hwz⟩
          subst hwz
          by_cases h12 : (es.length : Int) < 12
          · skip
            go_wp2_with (at_builtin; go_loud (refine wpList_app_D rfl _ _ rfl G _ _ _ rfl HE_17.out s v _ _ rfl (by first | rfl | simp) (by omega) (by omega) ?_; intro v' w18 ho hb; obtain ⟨An, cn, rfl⟩ := own_form ho; have X0_18 := Lib.hid (clLowC X0_17.out hb (by omega)); have X1_18 := Lib.hid (clLowC X1_17.out hb (by omega)); have PA_18 := Lib.hid (clLowC PA_17.out hb (by omega)); have PB_18 := Lib.hid (clLowC PB_17.out hb (by omega)); have HD_18 := Lib.hid (ownLowC HD_17.out hb (fun q hq => by have := HDC.out q hq; omega)); have HE_18 := Lib.hid ho; have HG_18 : Hid (w.grownBy w18 (some R)) := Lib.hid (grown_below HG_17.out (hb.mono (by omega))); have HR_18 := Lib.hid (HR_17.out.belowL hb (by omega)); have hz18 : w17.heap.size ≤ w18.heap.size := hb.size; have pb2 := PB_18.out.1; have fb2 := PB_18.out.2; clear ho hb))
            clear pb2 fb2
            obtain ⟨w19, hw⟩ : ∃ W : World, W = (w18.setCell ⟨C2, 0, none⟩ (.slice An (es.length + 1) cn)) := ⟨_, rfl⟩
            have X0_19 := Lib.hid (show Cl w19 _ _ by rw [hw]; exact clSetOc X0_18.out (by omega))
            have X1_19 := Lib.hid (show Cl w19 _ _ by rw [hw]; exact clSetOc X1_18.out (by omega))
            have PA_19 := Lib.hid (show Cl w19 _ _ by rw [hw]; exact clSetOc PA_18.out (by omega))
            have PB_19 : Hid (Cl w19 C2 (.slice An (es.length + 1) cn)) := Lib.hid (by rw [hw]; exact clSetc PB_18.out)
            have HD_19 := Lib.hid (show w19.ownsRow _ _ _ _ _ _ by rw [hw]; exact own_setCell HD_18.out (fun e => by have h1 := HDC.out _ e; simp only at h1; omega) _)
            have HE_19 := Lib.hid (show w19.ownsRow _ _ _ _ _ _ by rw [hw]; exact own_setCell HE_18.out (fun e => by have h1 := (HE_18.out.lt _ e).1; simp only at h1; omega) _)
            have HG_19 : Hid (w.grownBy w19 (some R)) := Lib.hid (by rw [hw]; exact grown_set HG_18.out (by simp only; omega) _)
            have HR_19 := Lib.hid (show Rdr w19 _ _ _ _ _ _ by rw [hw]; exact HR_18.out.set (by simp only; omega) _)
            have hz19 : w18.heap.size ≤ w19.heap.size := by rw [hw]; simp
            have HW19 : Hid ((w18.setCell ⟨C2, 0, none⟩ (.slice An (es.length + 1) cn)) = w19) := Lib.hid hw.symm
            clear hw
            clear X0_18 X1_18 PA_18 PB_18 HD_18 HE_18 HG_18 HR_18
            have PB_19 : Hid (Cl w19 C2 (.slice An (es ++ [(⟨s, v⟩ : D)]).length cn)) := by rw [List.length_append]; exact PB_19
            have HE_19 : Hid (w19.ownsRow G 37 2 (.slice An (es ++ [(⟨s, v⟩ : D)]).length cn) (es ++ [(⟨s, v⟩ : D)]).length (flat (es ++ [(⟨s, v⟩ : D)]))) := by rw [List.length_append]; exact Lib.hid (by simpa [flat, encD] using HE_19.out)
            skip
            go_roundw
            all_goals try rw [HW19.out]
            case rel => exact ⟨m, An, cn, (es ++ [⟨s, v⟩]), (p2 + 1 + 1 + 1 + 1 + 1), by go_num, by omega, by simp; omega, by omega, by omega, (Lib.hid (by intro d hd; rcases List.mem_append.1 hd with hd | hd; exact HS.out d hd; simp at hd; subst hd; exact ⟨hsz, by show (-5000 : Int) ≤ v; omega, by show v ≤ 5000; omega⟩)), X0_19, X1_19, PA_19, PB_19, HD_19, HE_19, HG_19, HR_19⟩
            case measure => simp [intOf]
          · skip
            go_wp2
            skip
            go_roundw
            all_goals try rw [HW17.out]
            case rel => exact ⟨m, As, cs, es, (p2 + 1 + 1 + 1 + 1 + 1), by go_num, by omega, by omega, by omega, by omega, HS, X0_17, X1_17, PA_17, PB_17, HD_17, HE_17, HG_17, HR_17⟩
            case measure => simp [intOf]
        · skip
          go_wp2_with fail
          refine (indexOf_v es s _ _ _ _ HSDE.out HIX.out).mono ?_
          rintro e wz ⟨rfl, hwz⟩
          subst hwz
          go_wp2
          skip
          go_roundw
          all_goals try rw [HW17.out]
          case rel => exact ⟨m, As, cs, es, (p2 + 1 + 1 + 1 + 1 + 1), by go_num, by omega, by omega, by omega, by omega, HS, X0_17, X1_17, PA_17, PB_17, HD_17, HE_17, HG_17, HR_17⟩
          case measure => simp [intOf]
      · skip
        have HSDE := Lib.hid (sd_of_own HE_15.out (fun d hd => small_ok (HS.out d hd)))
        obtain ⟨ix, hix⟩ : ∃ ix, fidx (isNm s) es = ix := ⟨_, rfl⟩
        have HIX := Lib.hid hix
        clear hix
        by_cases hx1 : ix < 0
        · skip
          go_wp2_with fail
          rw [HW15.out]
          refine (indexOf_v es s _ _ _ _ HSDE.out HIX.out).mono ?_
          rintro e wz ⟨rfl, hwz⟩
          subst hwz
          clear lX0 lX1 lPA lPB lF
          obtain ⟨pb, fb⟩ := id PB_15.out
          have d0 := d0_15
          have d1 := d1_15
          by_cases h12 : (es.length : Int) < 12
          · skip
            go_wp2_with (at_builtin; go_loud (refine wpList_app_D rfl _ _ rfl G _ _ _ rfl HE_15.out s v _ _ rfl (by first | rfl | simp) (by omega) (by omega) ?_; intro v' w16 ho hb; obtain ⟨An, cn, rfl⟩ := own_form ho; have X0_16 := Lib.hid (clLowC X0_15.out hb (by omega)); have X1_16 := Lib.hid (clLowC X1_15.out hb (by omega)); have PA_16 := Lib.hid (clLowC PA_15.out hb (by omega)); have PB_16 := Lib.hid (clLowC PB_15.out hb (by omega)); have HD_16 := Lib.hid (ownLowC HD_15.out hb (fun q hq => by have := HDC.out q hq; omega)); have HE_16 := Lib.hid ho; have HG_16 : Hid (w.grownBy w16 (some R)) := Lib.hid (grown_below HG_15.out (hb.mono (by omega))); have HR_16 := Lib.hid (HR_15.out.belowL hb (by omega)); have hz16 : w15.heap.size ≤ w16.heap.size := hb.size; have pb2 := PB_16.out.1; have fb2 := PB_16.out.2; clear ho hb))
            clear pb2 fb2
            obtain ⟨w17, hw⟩ : ∃ W : World, W = (w16.setCell ⟨C2, 0, none⟩ (.slice An (es.length + 1) cn)) := ⟨_, rfl⟩
            have X0_17 := Lib.hid (show Cl w17 _ _ by rw [hw]; exact clSetOc X0_16.out (by omega))
            have X1_17 := Lib.hid (show Cl w17 _ _ by rw [hw]; exact clSetOc X1_16.out (by omega))
            have PA_17 := Lib.hid (show Cl w17 _ _ by rw [hw]; exact clSetOc PA_16.out (by omega))
            have PB_17 : Hid (Cl w17 C2 (.slice An (es.length + 1) cn)) := Lib.hid (by rw [hw]; exact clSetc PB_16.out)
            have HD_17 := Lib.hid (show w17.ownsRow _ _ _ _ _ _ by rw [hw]; exact own_setCell HD_16.out (fun e => by have h1 := HDC.out _ e; simp only at h1; omega) _)
            have HE_17 := Lib.hid (show w17.ownsRow _ _ _ _ _ _ by rw [hw]; exact own_setCell HE_16.out (fun e => by have h1 := (HE_16.out.lt _ e).1; simp only at h1; omega) _)
            have HG_17 : Hid (w.grownBy w17 (some R)) := Lib.hid (by rw [hw]; exact grown_set HG_16.out (by simp only; omega) _)
            have HR_17 := Lib.hid (show Rdr w17 _ _ _ _ _ _ by rw [hw]; exact HR_16.out.set (by simp only; omega) _)
            have hz17 : w16.heap.size ≤ w17.heap.size := by rw [hw]; simp
            have HW17 : Hid ((w16.setCell ⟨C2, 0, none⟩ (.slice An (es.length + 1) cn)) = w17) := Lib.hid hw.symm
            clear hw
            clear X0_16 X1_16 PA_16 PB_16 HD_16 HE_16 HG_16 HR_16
            have PB_17 : Hid (Cl w17 C2 (.slice An (es ++ [(⟨s, v⟩ : D)]).length cn)) := by rw [List.length_append]; exact PB_17
            have HE_17 : Hid (w17.ownsRow G 37 2 (.slice An (es ++ [(⟨s, v⟩ : D)]).length cn) (es ++ [(⟨s, v⟩ : D)]).length (flat (es ++ [(⟨s, v⟩ : D)]))) := by rw [List.length_append]; exact Lib.hid (by simpa [flat, encD] using HE_17.out)
            skip
            go_roundw
            all_goals try rw [HW17.out]
            case rel => exact ⟨m, An, cn, (es ++ [⟨s, v⟩]), (p2 + 1 + 1 + 1), by go_num, by omega, by simp; omega, by omega, by omega, (Lib.hid (by intro d hd; rcases List.mem_append.1 hd with hd | hd; exact HS.out d hd; simp at hd; subst hd; exact ⟨hsz, by show (-5000 : Int) ≤ v; omega, by show v ≤ 5000; omega⟩)), X0_17, X1_17, PA_17, PB_17, HD_17, HE_17, HG_17, HR_17⟩
            case measure => simp [intOf]
          · skip
            go_wp2
            skip
            go_roundw
            all_goals try rw [HW15.out]
            case rel => exact ⟨m, As, cs, es, (p2 + 1 + 1 + 1), by go_num, by omega, by omega, by omega, by omega, HS, X0_15, X1_15, PA_15, PB_15, HD_15, HE_15, HG_15, HR_15⟩
            case measure => simp [intOf]
        · skip
          go_wp2_with fail
          rw [HW15.out]
          refine (indexOf_v es s _ _ _ _ HSDE.out HIX.out).mono ?_
          rintro e wz ⟨rfl, hwz⟩
          subst hwz
          clear lX0 lX1 lPA lPB lF
          go_wp2
          skip
          go_roundw
          all_goals try rw [HW15.out]
          case rel => exact ⟨m, As, cs, es, (p2 + 1 + 1 + 1), by go_num, by omega, by omega, by omega, by omega, HS, X0_15, X1_15, PA_15, PB_15, HD_15, HE_15, HG_15, HR_15⟩
          case measure => simp [intOf]
  · skip
    have pa := PA_6.out.1
    have pb := PB_6.out.1
    obtain ⟨x0, f0⟩ := id X0_6.out
    obtain ⟨x1, f1⟩ := id X1_6.out
    go_upto_region 16 with fail
    try rw [HW6.out]
    go_region_held3 (fun w' => w'.cell? ⟨C, 0, none⟩ = some (.slice Aa ds.length ca) ∧ w'.cell? ⟨C2, 0, none⟩ = some (.slice Ab bs.length cc)) (first | exact ⟨pa, pb⟩ | go_keep) (fail)
    all_goals
      go_wp2
      refine bodyPost_ret (v := .tuple #[.agg #[.slice Aa ds.length ca], .agg #[.slice Ab bs.length cc]]) (by simp [results, Try.results110, go_sem, x0, x1, hd1, hd2]) rfl ⟨Aa, ca, ds, Ab, cc, bs, (p4 + 1), rfl, hna, hnb, HSa.out, HSb.out, ?_, ?_, by omega, ?_, ?_⟩
      · exact own_base (own_setCell (own_setCell (ownDrew HD_6.out) (fun e => by have h1 := (HD_6.out.lt _ e).1; simp only at h1; omega) _) (fun e => by have h1 := (HD_6.out.lt _ e).1; simp only at h1; omega) _) (by omega)
      · exact own_base (own_setCell (own_setCell (ownDrew HE_6.out) (fun e => by have h1 := (HE_6.out.lt _ e).1; simp only at h1; omega) _) (fun e => by have h1 := (HE_6.out.lt _ e).1; simp only at h1; omega) _) (by omega)
      · exact grown_set (grown_set (growDrew HG_6.out) (by simp) _) (by simp) _
      · exact ((rdrDrew HR_6.out).set (by simp only; omega) _).set (by simp only; omega) _
end Go.Proofs.Ytbkfagncoekbkaa
