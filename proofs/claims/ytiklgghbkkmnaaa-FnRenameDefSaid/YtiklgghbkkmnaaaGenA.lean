import Derived.Test.YtiklgghbkkmnaaaGenD
namespace Go.Proofs.Ytiklgghbkkmnaaa
open Go.RowKit
set_option linter.unusedVariables false
set_option maxRecDepth 100000

/-- A drawn enumeration and a definition. -/
def DrawED (w : World) (e : Ending) (w' : World) : Prop :=
  ∃ (A : Option Addr) (c : Nat) (ds : List D) (d : D), e = .returned (.tuple #[.agg #[.slice A ds.length c], .agg #[.string d.name, .int .i64 d.val]]) ∧ d.ok ∧ ds.length ≤ 25 ∧ (∀ d ∈ ds, d.small) ∧ SD w' w'.heap.size A ds.length c ds ∧ Below w.heap.size w w'
/-- A drawn enumeration and two names. -/
def DrawESS (w : World) (e : Ending) (w' : World) : Prop :=
  ∃ (A : Option Addr) (c : Nat) (ds : List D) (s t : ByteArray), e = .returned (.tuple #[.agg #[.slice A ds.length c], .string s, .string t]) ∧ s.size ≤ 100 ∧ t.size ≤ 100 ∧ ds.length ≤ 25 ∧ (∀ d ∈ ds, d.small) ∧ SD w' w'.heap.size A ds.length c ds ∧ Below w.heap.size w w'

set_option maxHeartbeats 2000000 in
theorem drawAddDef_any (A : Option Addr) (n c : Nat) (zs : List Int) (w : World) (h : SB w w.heap.size A n c zs) :
    Calls Try.prog 15 #[.slice A n c] w (DrawED w) := by
  have HS := Lib.hid (SB.alloc0 (SB.alloc0 h (.cells #[.slice none 0 0] 25)) (.cells #[.string ⟨#[]⟩, .int .i64 0] 27))
  clear h
  go_enter Try.func15, Try.ntmps15
  obtain ⟨W, hW⟩ : ∃ W : World, W = ((w.alloc (.cells #[.slice none 0 0] 25)).alloc (.cells #[.string ⟨#[]⟩, .int .i64 0] 27)) := ⟨_, rfl⟩
  have hbW : Below w.heap.size w W := by rw [hW]; exact (((Below.refl _ _).alloc (Nat.le_refl _) _).alloc (by simp) _)
  have x0 : W.cell? ⟨w.heap.size, 0, none⟩ = some (.slice none 0 0) := by rw [hW]; simp [go_sem]
  have x1 : W.cell? ⟨w.heap.size + 1, 0, none⟩ = some (.string ⟨#[]⟩) := by rw [hW]; simp [go_sem]
  have x2 : W.cell? ⟨w.heap.size + 1, 1, none⟩ = some (.int .i64 0) := by rw [hW]; simp [go_sem]
  have f0 : W.frozen? ⟨w.heap.size, 0, none⟩ = false := by rw [hW]; simp [go_sem]
  have f1 : W.frozen? ⟨w.heap.size + 1, 0, none⟩ = false := by rw [hW]; simp [go_sem]
  have f2 : W.frozen? ⟨w.heap.size + 1, 1, none⟩ = false := by rw [hW]; simp [go_sem]
  have hz0 : W.heap.size = w.heap.size + 1 + 1 := by rw [hW]; simp
  rw [← hW] at HS
  go_wp2_with fail
  rw [← hW]
  clear hW
  refine (newReader_any A n c zs _ HS.out).mono ?_
  rintro e w1 ⟨R, A1, cb, z1, rfl, hR, hr, hb⟩
  have hwR : w.heap.size ≠ R := by omega
  have hwR1 : w.heap.size + 1 ≠ R := by omega
  have hz1 : w.heap.size + 1 + 1 ≤ w1.heap.size := by have := hb.size; omega
  have x0 := keep1 hb x0
  have x1 := keep1 hb x1
  have x2 := keep1 hb x2
  have f0 := (hb.frozen (p := ⟨w.heap.size, 0, none⟩) (by simp; omega)).trans f0
  have f1 := (hb.frozen (p := ⟨w.heap.size + 1, 0, none⟩) (by simp; omega)).trans f1
  have f2 := (hb.frozen (p := ⟨w.heap.size + 1, 1, none⟩) (by simp; omega)).trans f2
  have HB : Hid (Below w.heap.size w w1) := Lib.hid (hbW.trans (hb.mono (by omega)))
  have HR := Lib.hid hr
  have HRl : Hid (w.heap.size + 1 + 1 ≤ R) := Lib.hid (by omega)
  clear hr hb hR hbW hz0
  go_wp2_with fail
  refine (someEnum_any R _ A1 cb z1 0 _ HR.out (by omega)).mono ?_
  rintro e w2 ⟨A', c', ds, p', rfl, hn, hsm, hown, hp', hg, hr⟩
  have x0 := hg.cell x0 (by simpa using hwR)
  have x1 := hg.cell x1 (by simpa using hwR1)
  have x2 := hg.cell x2 (by simpa using hwR1)
  have f0 : w2.frozen? ⟨w.heap.size, 0, none⟩ = false := grown_frozen hg (by show w.heap.size < _; omega) f0 (by simpa using hwR)
  have f1 : w2.frozen? ⟨w.heap.size + 1, 0, none⟩ = false := grown_frozen hg (by show w.heap.size + 1 < _; omega) f1 (by simpa using hwR1)
  have f2 : w2.frozen? ⟨w.heap.size + 1, 1, none⟩ = false := grown_frozen hg (by show w.heap.size + 1 < _; omega) f2 (by simpa using hwR1)
  have hz2 : w.heap.size + 1 + 1 ≤ w2.heap.size := by have := hg.size; omega
  have HG2 : Hid (w1.grownBy w2 (some R)) := Lib.hid hg
  have HO2 := Lib.hid hown
  have HR2 := Lib.hid hr
  have HSM := Lib.hid hsm
  have HRB : Hid (R < w1.heap.size) := Lib.hid HR.out.lt
  clear hg hr hown hsm HR
  go_wp2_with fail
  refine (anyName_any R _ A1 cb z1 p' _ HR2.out (by omega)).mono ?_
  rintro e w3 ⟨s, p3, rfl, hs, hp3, hg, hr⟩
  have x0 := hg.cell x0 (by simpa using hwR)
  have x1 := hg.cell x1 (by simpa using hwR1)
  have x2 := hg.cell x2 (by simpa using hwR1)
  have f0 : w3.frozen? ⟨w.heap.size, 0, none⟩ = false := grown_frozen hg (by show w.heap.size < _; omega) f0 (by simpa using hwR)
  have f1 : w3.frozen? ⟨w.heap.size + 1, 0, none⟩ = false := grown_frozen hg (by show w.heap.size + 1 < _; omega) f1 (by simpa using hwR1)
  have f2 : w3.frozen? ⟨w.heap.size + 1, 1, none⟩ = false := grown_frozen hg (by show w.heap.size + 1 < _; omega) f2 (by simpa using hwR1)
  have hz3 : w.heap.size + 1 + 1 ≤ w3.heap.size := by have := hg.size; omega
  have HO3 := Lib.hid (HO2.out.kept hg (own_neR HO2.out HRB.out))
  have HG3 : Hid (w1.grownBy w3 (some R)) := Lib.hid (HG2.out.trans hg)
  have HR3 := Lib.hid hr
  clear hg hr HO2 HG2 HR2
  have bA : Below w3.heap.size w3 (w3.alloc (.cells #[.int .i64 1, .int .i64 9, .int .i64 0, .int .i64 (-3), .int .i64 1001] 3)) := (Below.refl _ _).alloc (Nat.le_refl _) _
  have x0 := keep1 bA x0
  have x1 := keep1 bA x1
  have x2 := keep1 bA x2
  have f0 := (bA.frozen (p := ⟨w.heap.size, 0, none⟩) (by simp; omega)).trans f0
  have f1 := (bA.frozen (p := ⟨w.heap.size + 1, 0, none⟩) (by simp; omega)).trans f1
  have f2 := (bA.frozen (p := ⟨w.heap.size + 1, 1, none⟩) (by simp; omega)).trans f2
  have hz4 : w.heap.size + 1 + 1 ≤ (w3.alloc (.cells #[.int .i64 1, .int .i64 9, .int .i64 0, .int .i64 (-3), .int .i64 1001] 3)).heap.size := by simp; omega
  have hz31 : w1.heap.size ≤ w3.heap.size := HG3.out.size
  have HO4 := Lib.hid (own_below HO3.out bA)
  have HG4 : Hid (w1.grownBy (w3.alloc (.cells #[.int .i64 1, .int .i64 9, .int .i64 0, .int .i64 (-3), .int .i64 1001] 3)) (some R)) := Lib.hid (grown_below HG3.out (bA.mono HG3.out.size))
  have HR4 := Lib.hid (HR3.out.below bA)
  clear bA HO3 HG3 HR3
  go_wp2_with fail
  refine (one_any (-3) 1001 R _ A1 cb z1 p3 w3.heap.size 5 5 _ HR4.out (by omega) (by have := HRB.out; omega) (by omega) (by omega) (litI rfl rfl (by simp [allI]))).mono ?_
  rintro e w5 ⟨v, rfl, v0, v1, hg, hr⟩
  have x0 := hg.cell x0 (by simpa using hwR)
  have x1 := hg.cell x1 (by simpa using hwR1)
  have x2 := hg.cell x2 (by simpa using hwR1)
  have f0 : w5.frozen? ⟨w.heap.size, 0, none⟩ = false := grown_frozen hg (by show w.heap.size < _; omega) f0 (by simpa using hwR)
  have f1 : w5.frozen? ⟨w.heap.size + 1, 0, none⟩ = false := grown_frozen hg (by show w.heap.size + 1 < _; omega) f1 (by simpa using hwR1)
  have f2 : w5.frozen? ⟨w.heap.size + 1, 1, none⟩ = false := grown_frozen hg (by show w.heap.size + 1 < _; omega) f2 (by simpa using hwR1)
  have HO5 := Lib.hid (HO4.out.kept hg (own_neR HO4.out HRB.out))
  have HG5 : Hid (w1.grownBy w5 (some R)) := Lib.hid (HG4.out.trans hg)
  clear hg hr HO4 HG4 HR4
  have hne : ¬ w.heap.size + 1 = w.heap.size := by omega
  have hne2 : ¬ w.heap.size = w.heap.size + 1 := by omega
  go_wp2
  refine bodyPost_ret (v := .tuple #[.agg #[.slice A' ds.length c'], .agg #[.string s, .int .i64 v]]) (by simp [results, Try.results15, go_sem, x0, x1, x2]) rfl ⟨A', c', ds, ⟨s, v⟩, rfl, ⟨by show s.size ≤ maxLen; unfold maxLen; omega, by show _ ≤ v; omega, by show v ≤ _; omega⟩, hn, HSM.out, ?_, ?_⟩
  · exact (sd_of_own (own_setCell (own_setCell (own_setCell HO5.out (fun e => by have := (HO5.out.lt _ e).1; simp at this; omega) _) (fun e => by have := (HO5.out.lt _ e).1; simp at this; omega) _) (fun e => by have := (HO5.out.lt _ e).1; simp at this; omega) _) (fun d hd => small_ok (HSM.out d hd)))
  · exact ((((HB.out.grown HG5.out HB.out.size (fun k hk => by cases hk; have := HRl.out; omega)).setCell (by simp) _).setCell (by simp) _).setCell (by simp) _)

set_option maxHeartbeats 4000000 in
theorem drawRenameDef_any (A : Option Addr) (n c : Nat) (zs : List Int) (w : World) (h : SB w w.heap.size A n c zs) :
    Calls Try.prog 24 #[.slice A n c] w (DrawESS w) := by
  have HS := Lib.hid h
  clear h
  go_enter Try.func24, Try.ntmps24
  go_wp2_with fail
  refine (newReader_any A n c zs _ (HS.out.alloc0 _)).mono ?_
  rintro e w1 ⟨R, A1, cb, z1, rfl, hR, hr, hb⟩
  have hwR : w.heap.size ≠ R := by simp at hR; omega
  have x0 : w1.cell? ⟨w.heap.size, 0, none⟩ = some (.slice none 0 0) := keep1 hb (by simp [go_sem])
  have y0 : w1.frozen? ⟨w.heap.size, 0, none⟩ = false := (hb.frozen (p := ⟨w.heap.size, 0, none⟩) (by simp)).trans (by simp [go_sem])
  have hz : w.heap.size < w1.heap.size := by have := hb.size; simp at this; omega
  have HB : Hid (Below w.heap.size w w1) := Lib.hid (((Below.refl _ _).alloc (Nat.le_refl _) _).trans (hb.mono (by simp)))
  have HR := Lib.hid hr
  have HRl : Hid (w.heap.size + 1 ≤ R) := Lib.hid (by simpa using hR)
  have HRB : Hid (R < w1.heap.size) := Lib.hid hr.lt
  clear hr hb hR
  go_wp2_with fail
  refine (nameIn_any R _ A1 cb z1 0 _ HR.out (by omega)).mono ?_
  rintro e w2 ⟨A', c', ds, s, p', rfl, hs, hn, hsm, hown, hp', hg, hr⟩
  have HSM := Lib.hid hsm
  obtain ⟨W, hW⟩ : ∃ W : World, W = w2.alloc (.cells #[.slice A' ds.length c'] 25) := ⟨_, rfl⟩
  have bW : Below w2.heap.size w2 W := by rw [hW]; exact (Below.refl _ _).alloc (Nat.le_refl _) _
  have hzz := hg.size
  have hg2 : w1.grownBy W (some R) := grown_below hg (bW.mono hg.size)
  have z0 : W.cell? ⟨w.heap.size, 0, none⟩ = some (.slice none 0 0) := keep1 bW (hg.cell x0 (by simpa using hwR))
  have g0 : W.frozen? ⟨w.heap.size, 0, none⟩ = false := (bW.frozen (p := ⟨w.heap.size, 0, none⟩) (by show w.heap.size < _; omega)).trans (grown_frozen hg (by show w.heap.size < _; omega) y0 (by simpa using hwR))
  have q1 : W.cell? ⟨w2.heap.size, 0, none⟩ = some (.slice A' ds.length c') := by rw [hW]; simp [go_sem]
  have HG := Lib.hid hg2
  have HO := Lib.hid (own_below hown bW)
  have HR2 := Lib.hid (hr.below bW)
  have hzW : w1.heap.size ≤ W.heap.size := by have := bW.size; omega
  have hbR : w2.heap.size ≠ R := by have := HRB.out; omega
  have hbw : ¬ w.heap.size = w2.heap.size := by omega
  have hbw2 : ¬ w2.heap.size = w.heap.size := by omega
  clear hg hr hown hsm x0 y0 bW hg2
  go_wp2_with fail
  rw [← hW]
  clear hW
  generalize w2.heap.size = G at *
  go_region_held3 (fun w' => w'.cell? ⟨G, 0, none⟩ = some (.slice A' ds.length c')) (first | go_keep | exact q1 | exact x1 | exact keepA q1)
    (first | (go_at_call 73; refine (of_any R _ A1 cb z1 p' W.heap.size 6 6 _ (by first | exact (HR2.out.drewN 1).below ((Below.refl _ _).alloc (Nat.le_refl _) _) | exact (HR2.out.below ((Below.refl _ _).alloc (Nat.le_refl _) _)).drewN 1) (by omega) (by have := HRB.out; omega) (by omega) (by omega) (by first | (refine litS ?_ ?_ <;> first | rfl | decide) | (exact litS (W := W) (by rfl) (by decide)))).mono ?_; rintro e w4 ⟨t, rfl, ht, hg, hr⟩; replace hg : W.grownBy w4 (some R) := (by first | exact grown_undrew hg | exact (World.grownBy_alloc _ _ _).trans ⟨hg.os, hg.tape, hg.output, hg.size, hg.block⟩); have x1 := hg.cell q1 (by simpa using hbR); have x0 := hg.cell z0 (by simpa using hwR); have y0 : w4.frozen? ⟨w.heap.size, 0, none⟩ = false := grown_frozen hg (by show w.heap.size < _; omega) g0 (by simpa using hwR)))
  go_wp2
  all_goals
    have HG4 := Lib.hid (HG.out.trans hg)
    have HO4 := Lib.hid (HO.out.kept hg (own_neR HO.out HRB.out))
    refine bodyPost_ret (v := .tuple #[.agg #[.slice A' ds.length c'], .string s, .string t]) (by simp [results, Try.results24, go_sem, x0]) rfl ⟨A', c', ds, s, t, rfl, hs, ht, hn, HSM.out, ?_, ?_⟩
    · exact (sd_of_own (own_setCell HO4.out (fun e => by have := (HO4.out.lt _ e).1; simp at this; omega) _) (fun d hd => small_ok (HSM.out d hd)))
    · exact (HB.out.grown HG4.out HB.out.size (fun k hk => by cases hk; have := HRl.out; omega)).setCell (Nat.le_refl _) _
end Go.Proofs.Ytiklgghbkkmnaaa
