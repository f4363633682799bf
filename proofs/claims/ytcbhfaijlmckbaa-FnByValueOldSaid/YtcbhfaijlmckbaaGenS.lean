import Derived.Test.YtcbhfaijlmckbaaGenE
import Derived.Deep.RegionLawGrows
namespace Go.Proofs.Ytcbhfaijlmckbaa
open Go.RowKit
set_option linter.unusedVariables false
set_option maxRecDepth 100000

set_option maxHeartbeats 4000000 in
theorem someEnum_any (R B : Nat) (A : Option Addr) (cb : Nat) (zs : List Int) (p : Nat) (w : World) (h : Rdr w R B A cb zs p) (hp : p + 110 ≤ 100000) :
    Calls Try.prog 59 #[.pointer (some ⟨R, 0, none⟩)] w (GenEP 25 110 R B A cb zs p w) := by
  have HR := Lib.hid h
  have HL := Lib.hid h.lt
  clear h
  go_enter Try.func59, Try.ntmps59
  go_wp2_with fail
  have b1 : Below w.heap.size w (w.alloc (.cells #[.slice none 0 0] 25)) := (Below.refl _ _).alloc (Nat.le_refl _) _
  have hwR : w.heap.size ≠ R := by have := HL.out; omega
  refine (goodEnum_any R B A cb zs p _ (HR.out.below b1) (by omega)).mono ?_
  rintro e w1 ⟨A', c, ds, p', rfl, hn, hsm, hown, hp', hg, hr⟩
  have c0 : w1.cell? ⟨w.heap.size, 0, none⟩ = some (.slice none 0 0) := hg.cell (by simp [go_sem]) (by simpa using hwR)
  have f0 : w1.frozen? ⟨w.heap.size, 0, none⟩ = false := grown_frozen hg (by simp) (by simp [go_sem]) (by simpa using hwR)
  have HO := Lib.hid (own_base hown (show w.heap.size + 1 ≤ _ by simp))
  have HG : Hid (w.grownBy w1 (some R)) := Lib.hid ((World.grownBy_alloc _ _ _).trans hg)
  have HR1 := Lib.hid hr
  have HS := Lib.hid hsm
  have hz1 : w.heap.size + 1 ≤ w1.heap.size := by have := hg.size; simpa using this
  have NE1 : Hid (∀ k, (Value.slice A' ds.length c).ownBlock = some k → w.heap.size + 1 ≤ k ∧ k < w1.heap.size) := Lib.hid (fun k hk => hown.lt k hk |>.imp (fun h => by simpa using h) id)
  clear hg hown hr hsm b1
  have bW : Below w1.heap.size w1 (w1.alloc (.cells #[.slice A' ds.length c] 25)) := (Below.refl _ _).alloc (Nat.le_refl _) _
  have c3 : (w1.alloc (.cells #[.slice A' ds.length c] 25)).cell? ⟨w1.heap.size, 0, none⟩ = some (.slice A' ds.length c) := by simp [go_sem]
  have f3 : (w1.alloc (.cells #[.slice A' ds.length c] 25)).frozen? ⟨w1.heap.size, 0, none⟩ = false := by simp [go_sem]
  replace c0 := keep1 bW c0
  replace f0 : (w1.alloc (.cells #[.slice A' ds.length c] 25)).frozen? ⟨w.heap.size, 0, none⟩ = false := (bW.frozen (p := ⟨w.heap.size, 0, none⟩) (by show w.heap.size < _; omega)).trans f0
  replace HO := Lib.hid (own_below HO.out bW)
  replace HG : Hid (w.grownBy (w1.alloc (.cells #[.slice A' ds.length c] 25)) (some R)) := Lib.hid (HG.out.trans (World.grownBy_alloc _ _ _))
  replace HR1 := Lib.hid (HR1.out.below bW)
  have hgR : w1.heap.size ≠ R := by have := HL.out; omega
  have hgw0 : w1.heap.size ≠ w.heap.size := by omega
  clear bW
  by_cases h0 : ds.length = 0
  · have h01 : ¬ (0 < (ds.length : Int)) := by omega
    clear h0
    go_wp2
    refine bodyPost_ret (v := .agg #[.slice A' ds.length c]) (by simp [results, Try.results59, go_sem, c0]) rfl ⟨A', c, ds, p', rfl, by omega, HS.out, ?_, by omega, ?_, ?_⟩
    · exact own_setCell (own_base HO.out (by omega)) (fun e => by have := (HO.out.lt _ e).1; simp at this; omega) _
    · exact grown_set HG.out (Nat.le_refl _) _
    · exact HR1.out.set HL.out _
  · have h01 : (0 < (ds.length : Int)) := by omega
    go_wp2_with fail
    refine (pick_any ds.length R B A cb zs p' _ HR1.out (by omega) (by omega) (by omega)).mono ?_
    rintro e w2 ⟨k, rfl, k0, k1, hg, hr⟩
    replace k1 := k1 (by omega)
    obtain ⟨k, rfl⟩ := Int.eq_ofNat_of_zero_le k0
    have hk : k < ds.length := by omega
    have d0 := hg.cell c0 (by simpa using hwR)
    have d3 := hg.cell c3 (by simpa using hgR)
    have e0 : w2.frozen? ⟨w.heap.size, 0, none⟩ = false := grown_frozen hg (by simp; omega) f0 (by simpa using hwR)
    have e3 : w2.frozen? ⟨w1.heap.size, 0, none⟩ = false := grown_frozen hg (by simp) f3 (by simpa using hgR)
    have HO2 := Lib.hid (HO.out.kept hg (own_neR HO.out (by have := HL.out; omega)))
    have HG2 := Lib.hid (HG.out.trans hg)
    have HR2 := Lib.hid hr
    have hz2 : w1.heap.size + 1 ≤ w2.heap.size := by have := hg.size; simpa using this
    clear hg hr c0 c3 f0 f3 HO HG HR1
    generalize w1.heap.size = g3 at *
    go_wp2_with fail
    refine (pick_any 24 R B A cb zs (p' + 1) _ HR2.out (by omega) (by omega) (by omega)).mono ?_
    rintro e w3 ⟨r, rfl, r0, r1, hg, hr⟩
    have c0 := hg.cell d0 (by simpa using hwR)
    have c3 := hg.cell d3 (by simpa using hgR)
    have f0 : w3.frozen? ⟨w.heap.size, 0, none⟩ = false := grown_frozen hg (by show w.heap.size < _; omega) e0 (by simpa using hwR)
    have f3 : w3.frozen? ⟨g3, 0, none⟩ = false := grown_frozen hg (by show g3 < _; omega) e3 (by simpa using hgR)
    have HO3 := Lib.hid (HO2.out.kept hg (own_neR HO2.out (by have := HL.out; omega)))
    have HG3 := Lib.hid (HG2.out.trans hg)
    have HR3 := Lib.hid hr
    have hz3 : g3 + 1 ≤ w3.heap.size := Nat.le_trans hz2 hg.size
    clear hg hr d0 d3 e0 e3 HO2 HG2 HR2 r1
    by_cases q0 : r = 0
    · have z0 : (r == 0) = true := beq_iff_eq.2 q0
      clear q0
      obtain ⟨g, rfl, hbg, hgl⟩ := own_addr HO3.out (by omega)
      have hgR2 : g ≠ R := by have := HL.out; omega
      have hgg : g ≠ g3 := by have := (NE1.out g rfl).2; omega
      have hg0 : g ≠ w.heap.size := by omega
      go_wp2_with fail
      go_region_held3 (fun w' => w'.cell? ⟨g3, 0, none⟩ = some (.slice (some ⟨g, 0, none⟩) ds.length c)) (first | go_keep | exact x3)
        (first | (go_at_call 113; refine (of_any R B A cb zs (p' + 1 + 1) w3.heap.size 3 3 _ ((HR3.out.drewN 1).below ((Below.refl _ _).alloc (Nat.le_refl _) _)) (by omega) (by have := HL.out; omega) (by omega) (by omega) (by refine litS ?_ ?_ <;> first | rfl | decide)).mono ?_; rintro e w4 ⟨s, rfl, hs, hg, hr⟩; replace hg : w3.grownBy w4 (some R) := grown_undrew hg; have HO4 := Lib.hid (HO3.out.kept hg (own_neR HO3.out (by have := HL.out; omega))); have hf1 := HO4.out.frozenAt (k * 2); obtain ⟨y1, hx1⟩ := own_cell HO4.out (k * 2) (by omega); have x3 := hg.cell c3 (by simpa using hgR); have x0 := hg.cell c0 (by simpa using hwR); have y0 : w4.frozen? ⟨w.heap.size, 0, none⟩ = false := grown_frozen hg (by show w.heap.size < _; omega) f0 (by simpa using hwR)))
      have HS4 : Hid (w4.heap.size ≥ w.heap.size + 1) := Lib.hid (by have := hg.size; omega)
      have HG4 := Lib.hid (HG3.out.trans hg)
      have HR4 := Lib.hid hr
      have HD := Lib.hid (HO4.out.stored (k * 2) (.string s)).1
      clear hg hr hx1 hf1 c3 c0 f0 f3
      go_wp2
      refine bodyPost_ret (v := .agg #[.slice (some ⟨g, 0, none⟩) ds.length c]) (by simp [results, Try.results59, go_sem, x0]) rfl ⟨some ⟨g, 0, none⟩, c, ds.set k ⟨s, ds[k].val⟩, p' + 1 + 1 + 1, by rw [List.length_set], by rw [List.length_set]; omega, small_set HS.out hk (fun h => ⟨hs, h.2⟩), ?_, by omega, ?_, ?_⟩
      · rw [List.length_set, ← flat_set_name ds k hk s]
        exact own_setCell (own_base HD.out (by omega)) (by simp [Value.ownBlock]; omega) _
      · exact grown_set (grown_set HG4.out (by show w.heap.size ≤ g; omega) _) (Nat.le_refl _) _
      · exact (HR4.out.set (by show R < g; have := HL.out; omega) _).set HL.out _
    by_cases q1 : r = 1
    · have z0 : (r == 0) = false := beq_eq_false_iff_ne.2 q0
      have z1 : (r == 1) = true := beq_iff_eq.2 q1
      clear q0 q1
      obtain ⟨g, rfl, hbg, hgl⟩ := own_addr HO3.out (by omega)
      have hgR2 : g ≠ R := by have := HL.out; omega
      have hgg : g ≠ g3 := by have := (NE1.out g rfl).2; omega
      have hg0 : g ≠ w.heap.size := by omega
      go_wp2_with fail
      go_region_held3 (fun w' => w'.cell? ⟨g3, 0, none⟩ = some (.slice (some ⟨g, 0, none⟩) ds.length c)) (first | go_keep | exact x3)
        (first | (go_at_call 70; refine (one_any (-1001) 1001 R B A cb zs (p' + 1 + 1) w3.heap.size 2 2 _ ((HR3.out.drewN 1).below ((Below.refl _ _).alloc (Nat.le_refl _) _)) (by omega) (by have := HL.out; omega) (by omega) (by omega) (litI rfl rfl (by simp [allI]))).mono ?_; rintro e w4 ⟨v, rfl, v0, v1, hg, hr⟩; replace hg : w3.grownBy w4 (some R) := grown_undrew hg; have HO4 := Lib.hid (HO3.out.kept hg (own_neR HO3.out (by have := HL.out; omega))); have hf1 := HO4.out.frozenAt (k * 2 + 1); obtain ⟨y1, hx1⟩ := own_cell HO4.out (k * 2 + 1) (by omega); have x3 := hg.cell c3 (by simpa using hgR); have x0 := hg.cell c0 (by simpa using hwR); have y0 : w4.frozen? ⟨w.heap.size, 0, none⟩ = false := grown_frozen hg (by show w.heap.size < _; omega) f0 (by simpa using hwR)))
      have HS4 : Hid (w4.heap.size ≥ w.heap.size + 1) := Lib.hid (by have := hg.size; omega)
      have HG4 := Lib.hid (HG3.out.trans hg)
      have HR4 := Lib.hid hr
      have HD := Lib.hid (HO4.out.stored (k * 2 + 1) (.int .i64 v)).1
      clear hg hr hx1 hf1 c3 c0 f0 f3
      go_wp2
      refine bodyPost_ret (v := .agg #[.slice (some ⟨g, 0, none⟩) ds.length c]) (by simp [results, Try.results59, go_sem, x0]) rfl ⟨some ⟨g, 0, none⟩, c, ds.set k ⟨ds[k].name, v⟩, p' + 1 + 1 + 1, by rw [List.length_set], by rw [List.length_set]; omega, small_set HS.out hk (fun h => ⟨h.1, by show (-5000 : Int) ≤ v; omega, by show v ≤ 5000; omega⟩), ?_, by omega, ?_, ?_⟩
      · rw [List.length_set, ← flat_set_val ds k hk v]
        exact own_setCell (own_base HD.out (by omega)) (by simp [Value.ownBlock]; omega) _
      · exact grown_set (grown_set HG4.out (by show w.heap.size ≤ g; omega) _) (Nat.le_refl _) _
      · exact (HR4.out.set (by show R < g; have := HL.out; omega) _).set HL.out _
    by_cases q2 : r = 2
    · have z0 : (r == 0) = false := beq_eq_false_iff_ne.2 q0
      have z1 : (r == 1) = false := beq_eq_false_iff_ne.2 q1
      have z2 : (r == 2) = true := beq_iff_eq.2 q2
      clear q0 q1 q2
      obtain ⟨g, rfl, hbg, hgl⟩ := own_addr HO3.out (by omega)
      have hgR2 : g ≠ R := by have := HL.out; omega
      have hgg : g ≠ g3 := by have := (NE1.out g rfl).2; omega
      have hg0 : g ≠ w.heap.size := by omega
      obtain ⟨bb, oo, hA, hb, x1, x2⟩ := (sd_of_own HO3.out (fun d hd => small_ok (HS.out d hd))).at_ hk
      injection hA with hA
      injection hA with hA1 hA2
      subst hA1 hA2
      simp only [Nat.zero_add] at x1 x2
      go_wp2_with fail
      have cA : (w3.alloc (.cells #[.string ds[k].name, .int .i64 ds[k].val] 60)).cell? ⟨g3, 0, none⟩ = some (.slice (some ⟨g, 0, none⟩) ds.length c) := by rw [World.cell?_alloc_lt _ _ _ (by show g3 < _; omega)]; exact c3
      go_region_law (refine step_app_D rfl _ _ rfl (w.heap.size + 1) _ _ _ rfl (HO3.out.alloc _) _ _ _ _ rfl (by first | exact heap_alloc_new w3 _ | simp) (by omega) (by simp; omega) ?_; intro v' w4 ho hg; obtain ⟨A4, c4, rfl⟩ := own_form ho; replace hg : w3.grownBy w4 (some g) := (by first | exact grown_undrew hg | exact (World.grownBy_alloc _ _ _).trans hg); have y3 := hg.cell c3 (by simpa using Ne.symm hgg); have y0 := hg.cell c0 (by simpa using Ne.symm hg0); have g0 : w4.frozen? ⟨w.heap.size, 0, none⟩ = false := grown_frozen hg (by show w.heap.size < _; omega) f0 (by simpa using Ne.symm hg0); have g3' : w4.frozen? ⟨g3, 0, none⟩ = false := grown_frozen hg (by show g3 < _; omega) f3 (by simpa using Ne.symm hgg))
      go_wp2
      all_goals
        have HG4 := Lib.hid (grown_row HG3.out hg (by omega))
        have HR4 := Lib.hid (HR3.out.grown hg (by simpa using Ne.symm hgR2) (fun q hq => by cases hq; have := HR3.out.low; have := HL.out; omega))
        rw [show flat ds ++ [Value.string ds[k].name, Value.int .i64 ds[k].val] = flat (ds ++ [ds[k]]) from by simp [flat, encD]] at ho
        have NE4 := Lib.hid (own_no_slice ho (by omega) y3)
        have HO4 := Lib.hid ho
        have e1 : ds.length + 1 = (ds ++ [ds[k]]).length := by simp
        refine bodyPost_ret (v := .agg #[.slice A4 (ds.length + 1) c4]) (by simp [results, Try.results59, go_sem, y0]) rfl ⟨A4, c4, ds ++ [ds[k]], p' + 1 + 1, by rw [e1], by simp; omega, small_app HS.out (fun d hd => by simp at hd; subst hd; exact HS.out _ (List.getElem_mem hk)), ?_, by omega, ?_, ?_⟩
        · rw [← e1]
          exact own_setCell (own_setCell (own_base HO4.out (by omega)) NE4.out _) (fun e => by have := (HO4.out.lt _ e).1; simp at this; omega) _
        · exact grown_set (grown_set HG4.out (by show w.heap.size ≤ g3; omega) _) (Nat.le_refl _) _
        · exact (HR4.out.set (by show R < g3; have := HL.out; omega) _).set HL.out _
    by_cases q3 : r = 3
    · have z0 : (r == 0) = false := beq_eq_false_iff_ne.2 q0
      have z1 : (r == 1) = false := beq_eq_false_iff_ne.2 q1
      have z2 : (r == 2) = false := beq_eq_false_iff_ne.2 q2
      have z3 : (r == 3) = true := beq_iff_eq.2 q3
      clear q0 q1 q2 q3
      obtain ⟨g, rfl, hbg, hgl⟩ := own_addr HO3.out (by omega)
      have hgR2 : g ≠ R := by have := HL.out; omega
      have hgg : g ≠ g3 := by have := (NE1.out g rfl).2; omega
      have hg0 : g ≠ w.heap.size := by omega
      go_wp2_with (at_builtin; refine wpList_app_Z rfl _ _ rfl (w.heap.size + 1) _ _ _ rfl HO3.out 13 rfl (by omega) (by omega) (by omega) (by omega) ?_; intro v' w4 ho hg; obtain ⟨A4, c4, rfl⟩ := own_form ho; replace hg : w3.grownBy w4 (some g) := hg; have y3 := hg.cell c3 (by simpa using Ne.symm hgg); have y0 := hg.cell c0 (by simpa using Ne.symm hg0); have g0 : w4.frozen? ⟨w.heap.size, 0, none⟩ = false := grown_frozen hg (by show w.heap.size < _; omega) f0 (by simpa using Ne.symm hg0); have g3' : w4.frozen? ⟨g3, 0, none⟩ = false := grown_frozen hg (by show g3 < _; omega) f3 (by simpa using Ne.symm hgg))
      have HG4 := Lib.hid (grown_row HG3.out hg (by omega))
      have HR4 := Lib.hid (HR3.out.grown hg (by simpa using Ne.symm hgR2) (fun q hq => by cases hq; have := HR3.out.low; have := HL.out; omega))
      have e1 : ds.length + 13 = (ds ++ List.replicate 13 (⟨ByteArray.empty, 0⟩ : D)).length := by simp
      rw [show flat ds ++ flat (List.replicate 13 (⟨ByteArray.empty, 0⟩ : D)) = flat (ds ++ List.replicate 13 (⟨ByteArray.empty, 0⟩ : D)) from by simp [flat]] at ho
      have NE4 := Lib.hid (own_no_slice ho (by omega) y3)
      have HO4 := Lib.hid ho
      refine bodyPost_ret (v := .agg #[.slice A4 (ds.length + 13) c4]) (by simp [results, Try.results59, go_sem, y0]) rfl ⟨A4, c4, ds ++ List.replicate 13 ⟨ByteArray.empty, 0⟩, p' + 1 + 1, by rw [e1], by simp; omega, small_app HS.out (fun d hd => by have := List.eq_of_mem_replicate hd; subst this; exact zero_small), ?_, by omega, ?_, ?_⟩
      · rw [← e1]
        exact own_setCell (own_setCell (own_base HO4.out (by omega)) NE4.out _) (fun e => by have := (HO4.out.lt _ e).1; simp at this; omega) _
      · exact grown_set (grown_set HG4.out (by show w.heap.size ≤ g3; omega) _) (Nat.le_refl _) _
      · exact (HR4.out.set (by show R < g3; have := HL.out; omega) _).set HL.out _
    have z0 : (r == 0) = false := beq_eq_false_iff_ne.2 q0
    have z1 : (r == 1) = false := beq_eq_false_iff_ne.2 q1
    have z2 : (r == 2) = false := beq_eq_false_iff_ne.2 q2
    have z3 : (r == 3) = false := beq_eq_false_iff_ne.2 q3
    clear q0 q1 q2 q3
    go_wp2
    refine bodyPost_ret (v := .agg #[.slice A' ds.length c]) (by simp [results, Try.results59, go_sem, c0]) rfl ⟨A', c, ds, p' + 1 + 1, rfl, by omega, HS.out, ?_, by omega, ?_, ?_⟩
    · exact own_setCell (own_base HO3.out (by omega)) (fun e => by have := (HO3.out.lt _ e).1; simp at this; omega) _
    · exact grown_set HG3.out (Nat.le_refl _) _
    · exact HR3.out.set HL.out _
end Go.Proofs.Ytcbhfaijlmckbaa
