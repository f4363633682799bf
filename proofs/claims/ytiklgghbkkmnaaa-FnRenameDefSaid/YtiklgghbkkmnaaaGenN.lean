import Derived.Test.YtiklgghbkkmnaaaGenS
namespace Go.Proofs.Ytiklgghbkkmnaaa
open Go.RowKit
set_option linter.unusedVariables false
set_option maxRecDepth 100000

/-- A drawn enumeration and a name. -/
def NamP (R B : Nat) (A : Option Addr) (cb : Nat) (zs : List Int) (p : Nat) (w : World) (e : Ending) (w' : World) : Prop :=
  ∃ (A' : Option Addr) (c : Nat) (ds : List D) (s : ByteArray) (p' : Nat), e = .returned (.tuple #[.agg #[.slice A' ds.length c], .string s]) ∧ s.size ≤ 100 ∧ ds.length ≤ 25 ∧ (∀ d ∈ ds, d.small) ∧
    w'.ownsRow w.heap.size 27 2 (.slice A' ds.length c) ds.length (flat ds) ∧ p' ≤ p + 120 ∧ w.grownBy w' (some R) ∧ Rdr w' R B A cb zs p'

set_option maxHeartbeats 4000000 in
theorem nameIn_any (R B : Nat) (A : Option Addr) (cb : Nat) (zs : List Int) (p : Nat) (w : World) (h : Rdr w R B A cb zs p) (hp : p + 120 ≤ 100000) :
    Calls Try.prog 69 #[.pointer (some ⟨R, 0, none⟩)] w (NamP R B A cb zs p w) := by
  have HR := Lib.hid h
  have HL := Lib.hid h.lt
  clear h
  go_enter Try.func69, Try.ntmps69
  go_wp2_with fail
  have b1 : Below w.heap.size w (w.alloc (.cells #[.slice none 0 0] 25)) := (Below.refl _ _).alloc (Nat.le_refl _) _
  have hwR : w.heap.size ≠ R := by have := HL.out; omega
  refine (someEnum_any R B A cb zs p _ (HR.out.below b1) (by omega)).mono ?_
  rintro e w1 ⟨A', c, ds, p', rfl, hn, hsm, hown, hp', hg, hr⟩
  have c0 : w1.cell? ⟨w.heap.size, 0, none⟩ = some (.slice none 0 0) := hg.cell (by simp [go_sem]) (by simpa using hwR)
  have f0 : w1.frozen? ⟨w.heap.size, 0, none⟩ = false := grown_frozen hg (by simp) (by simp [go_sem]) (by simpa using hwR)
  have HO := Lib.hid (own_base hown (show w.heap.size + 1 ≤ _ by simp))
  have HG : Hid (w.grownBy w1 (some R)) := Lib.hid ((World.grownBy_alloc _ _ _).trans hg)
  have HR1 := Lib.hid hr
  have HS := Lib.hid hsm
  have hz1 : w.heap.size + 1 ≤ w1.heap.size := by have := hg.size; simpa using this
  clear hg hown hr hsm b1
  have bW : Below w1.heap.size w1 (w1.alloc (.cells #[.slice A' ds.length c] 25)) := (Below.refl _ _).alloc (Nat.le_refl _) _
  have c3 : (w1.alloc (.cells #[.slice A' ds.length c] 25)).cell? ⟨w1.heap.size, 0, none⟩ = some (.slice A' ds.length c) := by simp [go_sem]
  replace c0 := keep1 bW c0
  replace f0 : (w1.alloc (.cells #[.slice A' ds.length c] 25)).frozen? ⟨w.heap.size, 0, none⟩ = false := (bW.frozen (p := ⟨w.heap.size, 0, none⟩) (by show w.heap.size < _; omega)).trans f0
  replace HO := Lib.hid (own_below HO.out bW)
  replace HG : Hid (w.grownBy (w1.alloc (.cells #[.slice A' ds.length c] 25)) (some R)) := Lib.hid (HG.out.trans (World.grownBy_alloc _ _ _))
  replace HR1 := Lib.hid (HR1.out.below bW)
  have hgR : w1.heap.size ≠ R := by have := HL.out; omega
  have hgw0 : w1.heap.size ≠ w.heap.size := by omega
  have hgw1 : ¬ w.heap.size = w1.heap.size := by omega
  clear bW
  by_cases h0 : ds.length = 0
  · have h01 : ¬ (0 < (ds.length : Int)) := by omega
    clear h0
    go_wp2_with fail
    go_region_held3 (fun w' => w'.cell? ⟨w1.heap.size, 0, none⟩ = some (.slice A' ds.length c)) (first | go_keep | exact x3)
      (first | (go_at_call 59; refine (anyName_any R B A cb zs p' _ (HR1.out.drewN 1) (by omega)).mono ?_; rintro e w4 ⟨s, p4, rfl, hs, hp4, hg, hr⟩; replace hg : (w1.alloc (.cells #[.slice A' ds.length c] 25)).grownBy w4 (some R) := ⟨hg.os, hg.tape, hg.output, hg.size, hg.block⟩; have x3 := hg.cell c3 (by simpa using hgR); have x0 := hg.cell c0 (by simpa using hwR); have y0 : w4.frozen? ⟨w.heap.size, 0, none⟩ = false := grown_frozen hg (by simp; omega) f0 (by simpa using hwR)))
    have HO4 := Lib.hid (HO.out.kept hg (own_neR HO.out (by have := HL.out; omega)))
    have HG4 := Lib.hid (HG.out.trans hg)
    have HR4 := Lib.hid hr
    clear hg hr
    go_wp2
    refine bodyPost_ret (v := .tuple #[.agg #[.slice A' ds.length c], .string s]) (by simp [results, Try.results69, go_sem, x0]) rfl ⟨A', c, ds, s, p4, rfl, hs, hn, HS.out, ?_, by omega, ?_, ?_⟩
    · exact own_setCell (own_base HO4.out (by omega)) (fun e => by have := (HO4.out.lt _ e).1; simp at this; omega) _
    · exact grown_set HG4.out (Nat.le_refl _) _
    · exact HR4.out.set HL.out _
  · have h01 : (0 < (ds.length : Int)) := by omega
    obtain ⟨g, rfl, hbg, hgl⟩ := own_addr HO.out (by omega)
    go_wp2_with fail
    refine (pick_any 6 R B A cb zs p' _ HR1.out (by omega) (by omega) (by omega)).mono ?_
    rintro e w2 ⟨r, rfl, r0, r1, hg, hr⟩
    have d0 := hg.cell c0 (by simpa using hwR)
    have d3 := hg.cell c3 (by simpa using hgR)
    have e0 : w2.frozen? ⟨w.heap.size, 0, none⟩ = false := grown_frozen hg (by simp; omega) f0 (by simpa using hwR)
    have HO2 := Lib.hid (HO.out.kept hg (own_neR HO.out (by have := HL.out; omega)))
    have HG2 := Lib.hid (HG.out.trans hg)
    have HR2 := Lib.hid hr
    have hz2 : w1.heap.size + 1 ≤ w2.heap.size := by have := hg.size; simpa using this
    clear hg hr c0 c3 f0 HO HG HR1 hgl
    generalize w1.heap.size = g3 at *
    by_cases hr0 : 0 < r
    · go_wp2_with fail
      go_region_with (first | (go_at_call 88; refine (pick_any ds.length R B A cb zs (p' + 1) _ (HR2.out.drewN 1) (by omega) (by omega) (by omega)).mono ?_; rintro e w4 ⟨k, rfl, k0, k1, hg, hr⟩; replace k1 := k1 (by omega); obtain ⟨k, rfl⟩ := Int.eq_ofNat_of_zero_le k0; have hk : k < ds.length := (by omega); replace hg : w2.grownBy w4 (some R) := ⟨hg.os, hg.tape, hg.output, hg.size, hg.block⟩; have HO4 := Lib.hid (HO2.out.kept hg (own_neR HO2.out (by have := HL.out; omega))); have y1 : w4.cell? ⟨g, k * 2, none⟩ = some (.string ds[k].name) := (by rw [HO4.out.cellAt (k * 2) (by omega)]; exact (flat_get ds k hk).1); have HZ := Lib.hid (HS.out _ (List.getElem_mem hk)).1; generalize ds[k].name = s at y1 HZ; have x3 := hg.cell d3 (by simpa using hgR); have x0 := hg.cell d0 (by simpa using hwR); have y0 : w4.frozen? ⟨w.heap.size, 0, none⟩ = false := grown_frozen hg (by show w.heap.size < _; omega) e0 (by simpa using hwR)))
      go_wp2
      all_goals
        have HG4 := Lib.hid (HG2.out.trans hg)
        have HR4 := Lib.hid hr
        refine bodyPost_ret (v := .tuple #[.agg #[.slice (some ⟨g, 0, none⟩) ds.length c], .string s]) (by simp [results, Try.results69, go_sem, x0]) rfl ⟨_, c, ds, s, p' + 1 + 1, rfl, HZ.out, hn, HS.out, ?_, by omega, ?_, ?_⟩
        · exact own_setCell (own_base HO4.out (by omega)) (fun e => by have := (HO4.out.lt _ e).1; simp at this; omega) _
        · exact grown_set HG4.out (Nat.le_refl _) _
        · exact HR4.out.set HL.out _
    · go_wp2_with fail
      go_region_held3 (fun w' => w'.cell? ⟨g3, 0, none⟩ = some (.slice (some ⟨g, 0, none⟩) ds.length c)) (first | go_keep | exact x3)
        (first | (go_at_call 59; refine (anyName_any R B A cb zs (p' + 1) _ (HR2.out.drewN 1) (by omega)).mono ?_; rintro e w4 ⟨s, p4, rfl, hs, hp4, hg, hr⟩; replace hg : w2.grownBy w4 (some R) := ⟨hg.os, hg.tape, hg.output, hg.size, hg.block⟩; have x3 := hg.cell d3 (by simpa using hgR); have x0 := hg.cell d0 (by simpa using hwR); have y0 : w4.frozen? ⟨w.heap.size, 0, none⟩ = false := grown_frozen hg (by show w.heap.size < _; omega) e0 (by simpa using hwR)))
      have HO4 := Lib.hid (HO2.out.kept hg (own_neR HO2.out (by have := HL.out; omega)))
      have HG4 := Lib.hid (HG2.out.trans hg)
      have HR4 := Lib.hid hr
      clear hg hr
      go_wp2
      refine bodyPost_ret (v := .tuple #[.agg #[.slice (some ⟨g, 0, none⟩) ds.length c], .string s]) (by simp [results, Try.results69, go_sem, x0]) rfl ⟨_, c, ds, s, p4, rfl, hs, hn, HS.out, ?_, by omega, ?_, ?_⟩
      · exact own_setCell (own_base HO4.out (by omega)) (fun e => by have := (HO4.out.lt _ e).1; simp at this; omega) _
      · exact grown_set HG4.out (Nat.le_refl _) _
      · exact HR4.out.set HL.out _
end Go.Proofs.Ytiklgghbkkmnaaa
