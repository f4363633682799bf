import Derived.Test.YtbkfagncoekbkaaGenF
namespace Go.Proofs.Ytbkfagncoekbkaa
open Go.RowKit
set_option linter.unusedVariables false
set_option maxRecDepth 100000

theorem SB.allocF {w : World} {A : Option Addr} {n c : Nat} {zs : List Int} (h : SB w w.heap.size A n c zs) (o : Obj) : SB (w.alloc o) (w.alloc o).heap.size A n c zs :=
  ⟨Rd.more (Rd.alloc h.rd (Nat.le_refl _) _) (by simp), h.len, h.cap, h.max, h.byt⟩
/-- A drawn class of flags. -/
def DrawF (w : World) (e : Ending) (w' : World) : Prop :=
  ∃ (A : Option Addr) (c : Nat) (ds : List D) (b : Int), e = .returned (.agg #[.slice A ds.length c, .int .i64 b]) ∧ ds.length ≤ 13 ∧ (∀ d ∈ ds, d.small) ∧ (-1 ≤ b ∧ b ≤ 4) ∧ SD w' w'.heap.size A ds.length c ds ∧ Below w.heap.size w w'
/-- A drawn class of flags and a number. -/
def DrawFN (w : World) (e : Ending) (w' : World) : Prop :=
  ∃ (A : Option Addr) (c : Nat) (ds : List D) (b n : Int), e = .returned (.tuple #[.agg #[.slice A ds.length c, .int .i64 b], .int .i64 n]) ∧ ds.length ≤ 13 ∧ (∀ d ∈ ds, d.small) ∧ (-1 ≤ b ∧ b ≤ 4) ∧ (-5000 ≤ n ∧ n ≤ 5000) ∧ SD w' w'.heap.size A ds.length c ds ∧ Below w.heap.size w w'


set_option maxHeartbeats 2000000 in
theorem drawMakeValue_any (A : Option Addr) (n c : Nat) (zs : List Int) (w : World) (h : SB w w.heap.size A n c zs) :
    Calls Try.prog 36 #[.slice A n c] w (DrawFN w) := by
  have HS := Lib.hid h
  clear h
  go_enter Try.func36, Try.ntmps36
  go_wp2_with fail
  refine (newReader_any A n c zs _ (HS.out.allocF _)).mono ?_
  rintro e w1 ⟨R, A1, cb, z1, rfl, hR, hr, hb⟩
  have hwR : w.heap.size ≠ R := by simp at hR; omega
  have HC1 : Hid (C2 w1 w.heap.size (.slice none 0 0) (.int .i64 0)) := Lib.hid ((c2New _ _ _ _).below hb)
  have HB : Hid (Below w.heap.size w w1) := Lib.hid (((Below.refl _ _).alloc (Nat.le_refl _) _).trans (hb.mono (by simp)))
  have HR1 := Lib.hid hr
  have hRl : w.heap.size + 1 ≤ R := by simpa using hR
  clear hr hb hR
  go_wp2_with fail
  refine (someFlag_any R _ A1 cb z1 0 _ HR1.out (by omega)).mono ?_
  rintro e w2 ⟨A', c', ds, b, p', rfl, hn, hsm, hbd, hown, hp', hg, hr⟩
  have HC2 := Lib.hid (HC1.out.grown hg (by simpa using hwR))
  have HG2 : Hid (w1.grownBy w2 (some R)) := Lib.hid hg
  have HO2 := Lib.hid hown
  have HSM := Lib.hid hsm
  have HBD := Lib.hid hbd
  have HR2 := Lib.hid hr
  have HR2l : Hid (R < w1.heap.size) := Lib.hid HR1.out.lt
  clear hg hr hown hsm hbd HC1 HR1
  go_wp2_with fail
  refine (pick_any 64 R _ A1 cb z1 (p') _ HR2.out (by omega) (by omega) (by omega)).mono ?_
  rintro e w3 ⟨q3, rfl, qa3, qb3, hg, hr⟩
  have qc3 := qb3 (by omega)
  have HC3 := Lib.hid (HC2.out.grown hg (by simpa using hwR))
  have HG3 : Hid (w1.grownBy w3 (some R)) := Lib.hid (HG2.out.trans hg)
  have HO3 := Lib.hid (HO2.out.kept hg (own_neR HO2.out HR2l.out))
  have HR3 := Lib.hid hr
  clear hg hr HC2 HG2 HO2 HR2
  go_wp2_with fail
  refine (one_any (-4097) (4096) R _ A1 cb z1 (p' + 1) w3.heap.size 13 13 _ (HR3.out.below ((Below.refl _ _).alloc (Nat.le_refl _) _)) (by omega) (by have := HR3.out.lt; omega) (by omega) (by omega) (litI rfl rfl (by simp [allI]; omega))).mono ?_
  rintro e w4 ⟨v, rfl, va, vb, hg0, hr⟩
  have hg := (World.grownBy_alloc w3 (.cells #[.int .i64 q3, .int .i64 1, .int .i64 3, .int .i64 (-1), .int .i64 (-2), .int .i64 (-4), .int .i64 0, .int .i64 4095, .int .i64 (-4096), .int .i64 4096, .int .i64 (-4097), .int .i64 32, .int .i64 (-33)] 3) (some R)).trans hg0
  clear hg0
  have HC4 := Lib.hid (HC3.out.grown hg (by simpa using hwR))
  have HG4 : Hid (w1.grownBy w4 (some R)) := Lib.hid (HG3.out.trans hg)
  have HO4 := Lib.hid (HO3.out.kept hg (own_neR HO3.out HR2l.out))
  have HR4 := Lib.hid hr
  clear hg hr HC3 HG3 HO3 HR3
  obtain ⟨c0, c1, f0, f1⟩ := HC4.out
  go_wp2
  refine bodyPost_ret (v := .tuple #[.agg #[.slice A' ds.length c', .int .i64 b], .int .i64 v]) (by simp [results, Try.results36, go_sem, c0, c1]) rfl ⟨A', c', ds, b, v, rfl, hn, HSM.out, HBD.out, ⟨by omega, by omega⟩, ?_, ?_⟩
  · exact sd_of_own (own_setCell (own_setCell HO4.out (fun e => by have := (HO4.out.lt _ e).1; have := HR2l.out; simp only at *; omega) _) (fun e => by have := (HO4.out.lt _ e).1; have := HR2l.out; simp only at *; omega) _) (fun d hd => small_ok (HSM.out d hd))
  · exact ((HB.out.grown HG4.out HB.out.size (fun k hk => by cases hk; omega)).setCell (Nat.le_refl _) _).setCell (Nat.le_refl _) _

set_option maxHeartbeats 2000000 in
theorem drawValidFlag_any (A : Option Addr) (n c : Nat) (zs : List Int) (w : World) (h : SB w w.heap.size A n c zs) :
    Calls Try.prog 15 #[.slice A n c] w (DrawF w) := by
  have HS := Lib.hid h
  clear h
  go_enter Try.func15, Try.ntmps15
  go_wp2_with fail
  refine (newReader_any A n c zs _ (HS.out.allocF _)).mono ?_
  rintro e w1 ⟨R, A1, cb, z1, rfl, hR, hr, hb⟩
  have hwR : w.heap.size ≠ R := by simp at hR; omega
  have HC1 : Hid (C2 w1 w.heap.size (.slice none 0 0) (.int .i64 0)) := Lib.hid ((c2New _ _ _ _).below hb)
  have HB : Hid (Below w.heap.size w w1) := Lib.hid (((Below.refl _ _).alloc (Nat.le_refl _) _).trans (hb.mono (by simp)))
  have HR1 := Lib.hid hr
  have hRl : w.heap.size + 1 ≤ R := by simpa using hR
  clear hr hb hR
  go_wp2_with fail
  refine (someFlag_any R _ A1 cb z1 0 _ HR1.out (by omega)).mono ?_
  rintro e w2 ⟨A', c', ds, b, p', rfl, hn, hsm, hbd, hown, hp', hg, hr⟩
  have HC2 := Lib.hid (HC1.out.grown hg (by simpa using hwR))
  have HG2 : Hid (w1.grownBy w2 (some R)) := Lib.hid hg
  have HO2 := Lib.hid hown
  have HSM := Lib.hid hsm
  have HBD := Lib.hid hbd
  have HR2 := Lib.hid hr
  have HR2l : Hid (R < w1.heap.size) := Lib.hid HR1.out.lt
  clear hg hr hown hsm hbd HC1 HR1
  obtain ⟨c0, c1, f0, f1⟩ := HC2.out
  go_wp2
  refine bodyPost_ret (v := .agg #[.slice A' ds.length c', .int .i64 b]) (by simp [results, Try.results15, go_sem, c0, c1]) rfl ⟨A', c', ds, b, rfl, hn, HSM.out, HBD.out, ?_, ?_⟩
  · exact sd_of_own (own_setCell (own_setCell HO2.out (fun e => by have := (HO2.out.lt _ e).1; have := HR2l.out; simp only at *; omega) _) (fun e => by have := (HO2.out.lt _ e).1; have := HR2l.out; simp only at *; omega) _) (fun d hd => small_ok (HSM.out d hd))
  · exact ((HB.out.grown HG2.out HB.out.size (fun k hk => by cases hk; omega)).setCell (Nat.le_refl _) _).setCell (Nat.le_refl _) _


set_option maxHeartbeats 2000000 in
theorem drawSinglesOf_any (A : Option Addr) (n c : Nat) (zs : List Int) (w : World) (h : SB w w.heap.size A n c zs) :
    Calls Try.prog 25 #[.slice A n c] w (DrawF w) := by
  have HS := Lib.hid h
  clear h
  go_enter Try.func25, Try.ntmps25
  go_wp2_with fail
  refine (newReader_any A n c zs _ (HS.out.allocF _)).mono ?_
  rintro e w1 ⟨R, A1, cb, z1, rfl, hR, hr, hb⟩
  have hwR : w.heap.size ≠ R := by simp at hR; omega
  have HC1 : Hid (C2 w1 w.heap.size (.slice none 0 0) (.int .i64 0)) := Lib.hid ((c2New _ _ _ _).below hb)
  have HB : Hid (Below w.heap.size w w1) := Lib.hid (((Below.refl _ _).alloc (Nat.le_refl _) _).trans (hb.mono (by simp)))
  have HR1 := Lib.hid hr
  have hRl : w.heap.size + 1 ≤ R := by simpa using hR
  clear hr hb hR
  go_wp2_with fail
  refine (someFlag_any R _ A1 cb z1 0 _ HR1.out (by omega)).mono ?_
  rintro e w2 ⟨A', c', ds, b, p', rfl, hn, hsm, hbd, hown, hp', hg, hr⟩
  have HC2 := Lib.hid (HC1.out.grown hg (by simpa using hwR))
  have HG2 : Hid (w1.grownBy w2 (some R)) := Lib.hid hg
  have HO2 := Lib.hid hown
  have HSM := Lib.hid hsm
  have HBD := Lib.hid hbd
  have HR2 := Lib.hid hr
  have HR2l : Hid (R < w1.heap.size) := Lib.hid HR1.out.lt
  clear hg hr hown hsm hbd HC1 HR1
  obtain ⟨c0, c1, f0, f1⟩ := HC2.out
  go_wp2
  refine bodyPost_ret (v := .agg #[.slice A' ds.length c', .int .i64 b]) (by simp [results, Try.results25, go_sem, c0, c1]) rfl ⟨A', c', ds, b, rfl, hn, HSM.out, HBD.out, ?_, ?_⟩
  · exact sd_of_own (own_setCell (own_setCell HO2.out (fun e => by have := (HO2.out.lt _ e).1; have := HR2l.out; simp only at *; omega) _) (fun e => by have := (HO2.out.lt _ e).1; have := HR2l.out; simp only at *; omega) _) (fun d hd => small_ok (HSM.out d hd))
  · exact ((HB.out.grown HG2.out HB.out.size (fun k hk => by cases hk; omega)).setCell (Nat.le_refl _) _).setCell (Nat.le_refl _) _

set_option maxHeartbeats 2000000 in
theorem drawComposedOf_any (A : Option Addr) (n c : Nat) (zs : List Int) (w : World) (h : SB w w.heap.size A n c zs) :
    Calls Try.prog 32 #[.slice A n c] w (DrawF w) := by
  have HS := Lib.hid h
  clear h
  go_enter Try.func32, Try.ntmps32
  go_wp2_with fail
  refine (newReader_any A n c zs _ (HS.out.allocF _)).mono ?_
  rintro e w1 ⟨R, A1, cb, z1, rfl, hR, hr, hb⟩
  have hwR : w.heap.size ≠ R := by simp at hR; omega
  have HC1 : Hid (C2 w1 w.heap.size (.slice none 0 0) (.int .i64 0)) := Lib.hid ((c2New _ _ _ _).below hb)
  have HB : Hid (Below w.heap.size w w1) := Lib.hid (((Below.refl _ _).alloc (Nat.le_refl _) _).trans (hb.mono (by simp)))
  have HR1 := Lib.hid hr
  have hRl : w.heap.size + 1 ≤ R := by simpa using hR
  clear hr hb hR
  go_wp2_with fail
  refine (someFlag_any R _ A1 cb z1 0 _ HR1.out (by omega)).mono ?_
  rintro e w2 ⟨A', c', ds, b, p', rfl, hn, hsm, hbd, hown, hp', hg, hr⟩
  have HC2 := Lib.hid (HC1.out.grown hg (by simpa using hwR))
  have HG2 : Hid (w1.grownBy w2 (some R)) := Lib.hid hg
  have HO2 := Lib.hid hown
  have HSM := Lib.hid hsm
  have HBD := Lib.hid hbd
  have HR2 := Lib.hid hr
  have HR2l : Hid (R < w1.heap.size) := Lib.hid HR1.out.lt
  clear hg hr hown hsm hbd HC1 HR1
  obtain ⟨c0, c1, f0, f1⟩ := HC2.out
  go_wp2
  refine bodyPost_ret (v := .agg #[.slice A' ds.length c', .int .i64 b]) (by simp [results, Try.results32, go_sem, c0, c1]) rfl ⟨A', c', ds, b, rfl, hn, HSM.out, HBD.out, ?_, ?_⟩
  · exact sd_of_own (own_setCell (own_setCell HO2.out (fun e => by have := (HO2.out.lt _ e).1; have := HR2l.out; simp only at *; omega) _) (fun e => by have := (HO2.out.lt _ e).1; have := HR2l.out; simp only at *; omega) _) (fun d hd => small_ok (HSM.out d hd))
  · exact ((HB.out.grown HG2.out HB.out.size (fun k hk => by cases hk; omega)).setCell (Nat.le_refl _) _).setCell (Nat.le_refl _) _


end Go.Proofs.Ytbkfagncoekbkaa
