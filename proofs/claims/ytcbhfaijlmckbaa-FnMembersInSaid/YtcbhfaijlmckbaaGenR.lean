import Derived.Test.YtcbhfaijlmckbaaGenD
namespace Go.Proofs.Ytcbhfaijlmckbaa
open Go.RowKit
set_option linter.unusedVariables false
set_option linter.unusedSimpArgs false
set_option maxRecDepth 100000

/-- A drawn enumeration and a number. -/
def DrawEN (w : World) (e : Ending) (w' : World) : Prop :=
  ∃ (A : Option Addr) (c : Nat) (ds : List D) (z : Int), e = .returned (.tuple #[.agg #[.slice A ds.length c], .int .i64 z]) ∧ (-60000 ≤ z ∧ z ≤ 60000) ∧ ds.length ≤ 25 ∧ (∀ d ∈ ds, d.small) ∧ SD w' w'.heap.size A ds.length c ds ∧ Below w.heap.size w w'
set_option maxHeartbeats 4000000 in
theorem drawMembersIn_any (A : Option Addr) (n c : Nat) (zs : List Int) (w : World) (h : SB w w.heap.size A n c zs) :
    Calls Try.prog 23 #[.slice A n c] w (DrawEN w) := by
  have HS := Lib.hid h
  clear h
  go_enter Try.func23, Try.ntmps23
  go_wp2_with fail
  refine (newReader_any A n c zs _ (HS.out.alloc0 _)).mono ?_
  rintro e w1 ⟨R, A1, cb, z1, rfl, hR, hr, hb⟩
  have hwR : w.heap.size ≠ R := by simp at hR; omega
  have x0 : w1.cell? ⟨w.heap.size, 0, none⟩ = some (.slice none 0 0) := keep1 hb (by simp [go_sem])
  have y0 : w1.frozen? ⟨w.heap.size, 0, none⟩ = false := (hb.frozen (p := ⟨w.heap.size, 0, none⟩) (by simp)).trans (by simp [go_sem])
  have hz : w.heap.size < w1.heap.size := by have := hb.size; simp at this; omega
  have HB : Hid (Below w.heap.size w w1) := Lib.hid (((Below.refl _ _).alloc (Nat.le_refl _) _).trans (hb.mono (by simp)))
  have HR := Lib.hid hr
  have HRl : Hid (w.heap.size + 1 ≤ R) := Lib.hid (by simpa using hR)
  clear hr hb hR
  go_wp2_with fail
  refine (someEnum_any R _ A1 cb z1 0 _ HR.out (by omega)).mono ?_
  rintro e w2 ⟨A', c', ds, p2, rfl, hn, hsm, hown, hp2, hg, hr⟩
  have x2 := hg.cell x0 (by simpa using hwR)
  have y2 : w2.frozen? ⟨w.heap.size, 0, none⟩ = false := grown_frozen hg (by show w.heap.size < _; omega) y0 (by simpa using hwR)
  have HG2 := Lib.hid hg
  have HO2 := Lib.hid hown
  have HSM := Lib.hid hsm
  have HR2 := Lib.hid hr
  have hz2 : w1.heap.size ≤ w2.heap.size := hg.size
  have HRB : Hid (R < w1.heap.size) := Lib.hid HR.out.lt
  clear hg hr hown hsm x0 y0 HR
  go_wp2_with fail
  refine (pick_any 16 R _ A1 cb z1 p2 _ HR2.out (by omega) (by omega) (by omega)).mono ?_
  rintro e w3 ⟨r, rfl, r0, r1, hg, hr⟩
  have x3 := hg.cell x2 (by simpa using hwR)
  have y3 : w3.frozen? ⟨w.heap.size, 0, none⟩ = false := grown_frozen hg (by show w.heap.size < _; omega) y2 (by simpa using hwR)
  have HG3 : Hid (w1.grownBy w3 (some R)) := Lib.hid (HG2.out.trans hg)
  have HO3 := Lib.hid (HO2.out.kept hg (own_neR HO2.out HRB.out))
  have HR3 := Lib.hid hr
  have hz3 : w1.heap.size ≤ w3.heap.size := by have := hg.size; omega
  have hr16 := r1 (by omega)
  clear hg hr x2 y2 HG2 HO2 HR2 r1
  have bA : Below w3.heap.size w3 (w3.alloc (.cells #[.int .i64 r, .int .i64 0, .int .i64 1, .int .i64 5, .int .i64 7, .int .i64 4095, .int .i64 (-1)] 3)) := (Below.refl _ _).alloc (Nat.le_refl _) _
  have x4 := keep1 bA x3
  have y4 := (bA.frozen (p := ⟨w.heap.size, 0, none⟩) (by show w.heap.size < _; omega)).trans y3
  have HO4 := Lib.hid (own_below HO3.out bA)
  have HG4 : Hid (w1.grownBy (w3.alloc (.cells #[.int .i64 r, .int .i64 0, .int .i64 1, .int .i64 5, .int .i64 7, .int .i64 4095, .int .i64 (-1)] 3)) (some R)) := Lib.hid (grown_below HG3.out (bA.mono HG3.out.size))
  have HR4 := Lib.hid (HR3.out.below bA)
  have hz4 : w1.heap.size ≤ (w3.alloc (.cells #[.int .i64 r, .int .i64 0, .int .i64 1, .int .i64 5, .int .i64 7, .int .i64 4095, .int .i64 (-1)] 3)).heap.size := by simp; omega
  clear bA HO3 HG3 HR3
  go_wp2_with fail
  refine (one_any (-60000) 60000 R _ A1 cb z1 (p2 + 1) w3.heap.size 7 7 _ HR4.out (by omega) (by have := HRB.out; omega) (by omega) (by omega) (litI rfl rfl (by simp [allI]; try omega))).mono ?_
  rintro e w5 ⟨v, rfl, v0, v1, hg, hr⟩
  have x5 := hg.cell x4 (by simpa using hwR)
  have y5 : w5.frozen? ⟨w.heap.size, 0, none⟩ = false := grown_frozen hg (by show w.heap.size < _; omega) y4 (by simpa using hwR)
  have HG5 : Hid (w1.grownBy w5 (some R)) := Lib.hid (HG4.out.trans hg)
  have HO5 := Lib.hid (HO4.out.kept hg (own_neR HO4.out HRB.out))
  clear hg hr x3 y3 x4 y4 HG4 HO4 HR4
  go_wp2
  refine bodyPost_ret (v := .tuple #[.agg #[.slice A' ds.length c'], .int .i64 v]) (by simp [results, Try.results23, go_sem, x5]) rfl ⟨A', c', ds, v, rfl, ⟨v0, v1⟩, hn, HSM.out, ?_, ?_⟩
  · exact (sd_of_own (own_setCell HO5.out (fun e => by have := (HO5.out.lt _ e).1; simp at this; omega) _) (fun d hd => small_ok (HSM.out d hd)))
  · exact (HB.out.grown HG5.out HB.out.size (fun k hk => by cases hk; have := HRl.out; omega)).setCell (Nat.le_refl _) _
end Go.Proofs.Ytcbhfaijlmckbaa
