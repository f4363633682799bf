import Derived.Test.YtjccnahebafepaaGenD
namespace Go.Proofs.Ytjccnahebafepaa
open Go.RowKit
set_option linter.unusedVariables false

/-- A drawn enumeration and a number. -/
def DrawI (w : World) (e : Ending) (w' : World) : Prop :=
  ∃ (A : Option Addr) (c : Nat) (ds : List D) (v : Int), e = .returned (.tuple #[.agg #[.slice A ds.length c], .int .i64 v]) ∧ -5000 ≤ v ∧ v ≤ 5000 ∧ ds.length ≤ 25 ∧ (∀ d ∈ ds, d.small) ∧ SD w' w'.heap.size A ds.length c ds ∧ Below w.heap.size w w'

set_option maxHeartbeats 4000000 in
theorem drawNameOf_any (A : Option Addr) (n c : Nat) (zs : List Int) (w : World) (h : SB w w.heap.size A n c zs) :
    Calls Try.prog 30 #[.slice A n c] w (DrawI w) := by
  have HS0 := Lib.hid h
  clear h
  go_enter Try.func30, Try.ntmps30
  go_wp2_with fail
  refine (newReader_any A n c zs _ (HS0.out.alloc0 _)).mono ?_
  rintro e w1 ⟨R, A1, cb, z1, rfl, hR, hr, hb⟩
  have hwR : w.heap.size ≠ R := by simp at hR; omega
  have x0 : w1.cell? ⟨w.heap.size, 0, none⟩ = some (.slice none 0 0) := keep1 hb (by simp [go_sem])
  have y0 : w1.frozen? ⟨w.heap.size, 0, none⟩ = false := (hb.frozen (p := ⟨w.heap.size, 0, none⟩) (by simp)).trans (by simp [go_sem])
  have hz : w.heap.size < w1.heap.size := by have := hb.size; simp at this; omega
  have HB : Hid (Below w.heap.size w w1) := Lib.hid (((Below.refl _ _).alloc (Nat.le_refl _) _).trans (hb.mono (by simp)))
  have HRl : Hid (w.heap.size + 1 ≤ R) := Lib.hid (by simpa using hR)
  generalize (w.alloc (.cells #[.slice none 0 0] 28)).heap.size = B at hr
  have HR := Lib.hid hr
  clear hr hb hR
  go_wp2_with fail
  refine (someEnum_any R B A1 cb z1 0 _ HR.out (by omega)).mono ?_
  rintro e w2 ⟨A', c', ds, p', rfl, hn, hsm, hown, hp', hg, hr⟩
  have c0 := hg.cell x0 (by simpa using hwR)
  have f0 : w2.frozen? ⟨w.heap.size, 0, none⟩ = false := grown_frozen hg (by show w.heap.size < _; omega) y0 (by simpa using hwR)
  have HO := Lib.hid hown
  have hR1 : R < w1.heap.size := HR.out.lt
  generalize hL : w1.heap.size = L at *
  have HG : Hid (Below w.heap.size w w2) := Lib.hid (HB.out.grown hg HB.out.size (fun k hk => by cases hk; have := HRl.out; omega))
  have HR2 := Lib.hid hr
  have HS := Lib.hid hsm
  have hz2 : w.heap.size + 1 ≤ w2.heap.size := by have := hg.size; omega
  have hL1 : w.heap.size + 1 ≤ L := by omega
  have hR2 : R < w2.heap.size := hr.lt
  clear hg hown hr hsm x0 y0 HB HR hz
  have bW : Below w2.heap.size w2 (w2.alloc (.cells #[.slice A' ds.length c'] 28)) := (Below.refl _ _).alloc (Nat.le_refl _) _
  have c3 : (w2.alloc (.cells #[.slice A' ds.length c'] 28)).cell? ⟨w2.heap.size, 0, none⟩ = some (.slice A' ds.length c') := by simp [go_sem]
  replace c0 := keep1 bW c0
  replace f0 : (w2.alloc (.cells #[.slice A' ds.length c'] 28)).frozen? ⟨w.heap.size, 0, none⟩ = false := (bW.frozen (p := ⟨w.heap.size, 0, none⟩) (by show w.heap.size < _; omega)).trans f0
  replace HO := Lib.hid (own_below HO.out bW)
  replace HG : Hid (Below w.heap.size w (w2.alloc (.cells #[.slice A' ds.length c'] 28))) := Lib.hid (HG.out.alloc HG.out.size _)
  replace HR2 := Lib.hid (HR2.out.below bW)
  have hgR : w2.heap.size ≠ R := by omega
  have hgw0 : w2.heap.size ≠ w.heap.size := by omega
  have hgw1 : ¬ w.heap.size = w2.heap.size := by omega
  have HRW : Hid (∀ q, some R = some q → w.heap.size ≤ q) := Lib.hid (fun q hq => by cases hq; have := HRl.out; omega)
  clear bW
  by_cases h0 : ds.length = 0
  · have h01 : ¬ (0 < (ds.length : Int)) := by omega
    clear h0
    have hz3 : w2.heap.size + 1 ≤ (w2.alloc (.cells #[.slice A' ds.length c'] 28)).heap.size := by simp
    go_wp2_with fail
    generalize (w2.alloc (.cells #[.slice A' ds.length c'] 28)) = W3 at *
    generalize w2.heap.size = g3 at *
    go_region_held3 (fun w' => w'.cell? ⟨g3, 0, none⟩ = some (.slice A' ds.length c')) (first | go_keep | exact x3)
      (first | (go_at_call 68; refine (one_any (-5000) 5000 R B A1 cb z1 p' W3.heap.size 5 5 _ ((HR2.out.drewN 1).below ((Below.refl _ _).alloc (Nat.le_refl _) _)) (by omega) (by have := HR2.out.lt; omega) (by omega) (by omega) (litI rfl rfl (by simp [allI]))).mono ?_; rintro e w4 ⟨v, rfl, v0, v1, hg, hr⟩; replace hg : W3.grownBy w4 (some R) := grown_undrew hg; have x3 := hg.cell c3 (by simpa using hgR); have x0 := hg.cell c0 (by simpa using hwR); have y0 : w4.frozen? ⟨w.heap.size, 0, none⟩ = false := grown_frozen hg (by show w.heap.size < _; omega) f0 (by simpa using hwR)))
    have HO4 := Lib.hid (HO.out.kept hg (own_neR HO.out hR1))
    have HG4 := Lib.hid (HG.out.grown hg HG.out.size HRW.out)
    clear hg hr
    go_wp2
    refine bodyPost_ret (v := .tuple #[.agg #[.slice A' ds.length c'], .int .i64 v]) (by simp [results, Try.results30, go_sem, x0]) rfl ⟨A', c', ds, v, rfl, v0, v1, hn, HS.out, ?_, ?_⟩
    · exact (sd_of_own (own_setCell HO4.out (fun e => by have := (HO4.out.lt _ e).1; simp at this; omega) _) (fun d hd => small_ok (HS.out d hd)))
    · exact HG4.out.setCell (Nat.le_refl _) _
  · have h01 : (0 < (ds.length : Int)) := by omega
    obtain ⟨g, rfl, hbg, hgl⟩ := own_addr HO.out (by omega)
    go_wp2_with fail
    refine (pick_any 4 R B A1 cb z1 p' _ HR2.out (by omega) (by omega) (by omega)).mono ?_
    rintro e w3 ⟨r, rfl, r0, r1, hg, hr⟩
    have d0 := hg.cell c0 (by simpa using hwR)
    have d3 := hg.cell c3 (by simpa using hgR)
    have e0 : w3.frozen? ⟨w.heap.size, 0, none⟩ = false := grown_frozen hg (by simp; omega) f0 (by simpa using hwR)
    have HO3 := Lib.hid (HO.out.kept hg (own_neR HO.out hR1))
    have HG3 := Lib.hid (HG.out.grown hg HG.out.size HRW.out)
    have HR3 := Lib.hid hr
    have hz3 : w2.heap.size + 1 ≤ w3.heap.size := by have := hg.size; simpa using this
    clear hg hr c0 c3 f0 HO HG HR2 hgl
    generalize w2.heap.size = g3 at *
    by_cases hr0 : 0 < r
    · go_wp2_with fail
      go_region_with (first | (go_at_call 67; refine (pick_any ds.length R B A1 cb z1 (p' + 1) _ (HR3.out.drewN 1) (by omega) (by omega) (by omega)).mono ?_; rintro e w4 ⟨k, rfl, k0, k1, hg, hr⟩; replace k1 := k1 (by omega); obtain ⟨k, rfl⟩ := Int.eq_ofNat_of_zero_le k0; have hk : k < ds.length := (by omega); replace hg : w3.grownBy w4 (some R) := ⟨hg.os, hg.tape, hg.output, hg.size, hg.block⟩; have HO4 := Lib.hid (HO3.out.kept hg (own_neR HO3.out hR1)); have y1 : w4.cell? ⟨g, k * 2 + 1, none⟩ = some (.int .i64 ds[k].val) := (by rw [HO4.out.cellAt (k * 2 + 1) (by omega)]; exact (flat_get ds k hk).2); have hv := (HS.out _ (List.getElem_mem hk)).2; generalize ds[k].val = v at y1 hv; have v0 := hv.1; have v1 := hv.2; have x3 := hg.cell d3 (by simpa using hgR); have x0 := hg.cell d0 (by simpa using hwR); have y0 : w4.frozen? ⟨w.heap.size, 0, none⟩ = false := grown_frozen hg (by show w.heap.size < _; omega) e0 (by simpa using hwR)))
      go_wp2
      all_goals
        have HG4 := Lib.hid (HG3.out.grown hg HG3.out.size HRW.out)
        refine bodyPost_ret (v := .tuple #[.agg #[.slice (some ⟨g, 0, none⟩) ds.length c'], .int .i64 v]) (by simp [results, Try.results30, go_sem, x0]) rfl ⟨(some ⟨g, 0, none⟩), c', ds, v, rfl, v0, v1, hn, HS.out, ?_, ?_⟩
        · exact (sd_of_own (own_setCell HO4.out (fun e => by have := (HO4.out.lt _ e).1; simp at this; omega) _) (fun d hd => small_ok (HS.out d hd)))
        · exact HG4.out.setCell (Nat.le_refl _) _
    · go_wp2_with fail
      go_region_held3 (fun w' => w'.cell? ⟨g3, 0, none⟩ = some (.slice (some ⟨g, 0, none⟩) ds.length c')) (first | go_keep | exact x3)
        (first | (go_at_call 68; refine (one_any (-5000) 5000 R B A1 cb z1 (p' + 1) w3.heap.size 5 5 _ ((HR3.out.drewN 1).below ((Below.refl _ _).alloc (Nat.le_refl _) _)) (by omega) (by have := HR3.out.lt; omega) (by omega) (by omega) (litI rfl rfl (by simp [allI]))).mono ?_; rintro e w4 ⟨v, rfl, v0, v1, hg, hr⟩; replace hg : w3.grownBy w4 (some R) := grown_undrew hg; have x3 := hg.cell d3 (by simpa using hgR); have x0 := hg.cell d0 (by simpa using hwR); have y0 : w4.frozen? ⟨w.heap.size, 0, none⟩ = false := grown_frozen hg (by show w.heap.size < _; omega) e0 (by simpa using hwR)))
      have HO4 := Lib.hid (HO3.out.kept hg (own_neR HO3.out hR1))
      have HG4 := Lib.hid (HG3.out.grown hg HG3.out.size HRW.out)
      clear hg hr
      go_wp2
      refine bodyPost_ret (v := .tuple #[.agg #[.slice (some ⟨g, 0, none⟩) ds.length c'], .int .i64 v]) (by simp [results, Try.results30, go_sem, x0]) rfl ⟨(some ⟨g, 0, none⟩), c', ds, v, rfl, v0, v1, hn, HS.out, ?_, ?_⟩
      · exact (sd_of_own (own_setCell HO4.out (fun e => by have := (HO4.out.lt _ e).1; simp at this; omega) _) (fun d hd => small_ok (HS.out d hd)))
      · exact HG4.out.setCell (Nat.le_refl _) _
end Go.Proofs.Ytjccnahebafepaa
