import Derived.Test.YtmahjggkiikmgaaGenK
namespace Go.Proofs.Ytmahjggkiikmgaa
open Go.RowKit
set_option linter.unusedVariables false
set_option linter.unusedSimpArgs false
set_option maxRecDepth 100000

/-- A drawn class and a list of names. -/
def DrawFL (w : World) (e : Ending) (w' : World) : Prop :=
  ∃ (A : Option Addr) (c : Nat) (ds : List D) (b : Int) (As : Option Addr) (cs : Nat) (ss : List ByteArray), e = .returned (.tuple #[.agg #[.slice A ds.length c, .int .i64 b], .slice As ss.length cs]) ∧ ds.length ≤ 13 ∧ (∀ d ∈ ds, d.small) ∧ (-1 ≤ b ∧ b ≤ 4) ∧ ss.length ≤ 3 ∧ (∀ s ∈ ss, s.size ≤ 100) ∧ SD w' w'.heap.size A ds.length c ds ∧ SS w' w'.heap.size As ss.length cs ss ∧ Below w.heap.size w w'
set_option maxHeartbeats 4000000 in
theorem drawFromNames_any (A : Option Addr) (n c : Nat) (zs : List Int) (w : World) (h : SB w w.heap.size A n c zs) :
    Calls Try.prog 44 #[.slice A n c] w (DrawFL w) := by
  have HS := Lib.hid h
  clear h
  go_enter Try.func44, Try.ntmps44
  go_wp2_with fail
  refine (newReader_any A n c zs _ (HS.out.allocF _)).mono ?_
  rintro e w1 ⟨R, A1, cb, z1, rfl, hR, hr, hb⟩
  have hwR : w.heap.size ≠ R := by simp at hR; omega
  have HC1 : Hid (C2 w1 w.heap.size (.slice none 0 0) (.int .i64 0)) := Lib.hid ((c2New _ _ _ _).below hb)
  have HB : Hid (Below w.heap.size w w1) := Lib.hid (((Below.refl _ _).alloc (Nat.le_refl _) _).trans (hb.mono (by simp)))
  have HR1 := Lib.hid hr
  have hRl : w.heap.size + 1 ≤ R := by simpa using hR
  have hR1 := HR1.out.lt
  clear hr hb hR
  go_wp2_with fail
  refine (someFlag_any R _ A1 cb z1 0 _ HR1.out (by omega)).mono ?_
  rintro e w2 ⟨A', c', ds, b, p2, rfl, hn, hsm, hbd, hown, hp2, hg, hr⟩
  have HC2 := Lib.hid (HC1.out.grown hg (by simpa using hwR))
  have HG2 : Hid (w1.grownBy w2 (some R)) := Lib.hid hg
  have hz2 : w1.heap.size ≤ w2.heap.size := hg.size
  have HO2 := Lib.hid hown
  have HSM := Lib.hid hsm
  have HBD := Lib.hid hbd
  have HR2 := Lib.hid hr
  clear hg hown hsm hbd HC1 HR1 hr
  obtain ⟨w3, hw⟩ : ∃ W : World, W = w2.alloc (.cells #[.slice A' ds.length c', .int .i64 b] 25) := ⟨_, rfl⟩
  have hb : Below w2.heap.size w2 w3 := by rw [hw]; exact (Below.refl _ _).alloc (Nat.le_refl _) _
  have HF3 : Hid (C2 w3 w2.heap.size (.slice A' ds.length c') (.int .i64 b)) := Lib.hid (by rw [hw]; exact c2New _ _ _ _)
  have hz3 : w2.heap.size + 1 ≤ w3.heap.size := by rw [hw]; simp
  have HC3 := Lib.hid (HC2.out.below hb)
  have HO3 := Lib.hid (own_below HO2.out hb)
  have HG3 : Hid (w1.grownBy w3 (some R)) := Lib.hid (HG2.out.trans (grown_of_below hb _))
  have HR3 := Lib.hid (HR2.out.below hb)
  have HW := Lib.hid hw.symm
  have hGR : w2.heap.size ≠ R := by omega
  have n1 : w2.heap.size ≠ w.heap.size := by omega
  have n2 : w.heap.size ≠ w2.heap.size := by omega
  clear hb hw HC2 HO2 HG2 HR2
  go_wp2_with fail
  rw [HW.out]
  clear HW
  generalize hG : w2.heap.size = G at *
  clear hG
  obtain ⟨d0, d1, _, _⟩ := HF3.out
  go_region_held3 (fun w' => w'.cell? ⟨G, 0, none⟩ = some (.slice A' ds.length c') ∧ w'.cell? ⟨G, 1, none⟩ = some (.int .i64 b)) (first | go_keep | exact ⟨d0, d1⟩ | exact ⟨x0, x1⟩)
    (first | (go_at_call 87; refine (someNames_any R _ A1 cb z1 p2 ds A' ds.length c' w1.heap.size _ (HR3.out.drewN 1) (by omega) (own_below HO3.out (below_drewN (Below.refl _ _) 1)) HSM.out (by omega) rfl hn).mono ?_; rintro e w4 ⟨As, cs, ss, p4, rfl, hs3, hss, hos, hp4, hg, hr⟩; replace hg : w3.grownBy w4 (some R) := ⟨hg.os, hg.tape, hg.output, hg.size, hg.block⟩; have HC4 := Lib.hid (HC3.out.grown hg (by simpa using hwR)); have HF4 := Lib.hid (HF3.out.grown hg (by simpa using hGR)); have x0 := HF4.out.c0; have x1 := HF4.out.c1; have y0 := HC4.out.c0; have y1 := HC4.out.c1; have z0 := HC4.out.f0; have z1' := HC4.out.f1))
  have HO4 := Lib.hid (HO3.out.kept hg (own_neR HO3.out (by omega)))
  have HG4 : Hid (w1.grownBy w4 (some R)) := Lib.hid (HG3.out.trans hg)
  have HOS := Lib.hid (own_base hos (show w1.heap.size ≤ _ by simp; omega))
  clear hg hr hos
  go_wp2
  refine bodyPost_ret (v := .tuple #[.agg #[.slice A' ds.length c', .int .i64 b], .slice As ss.length cs]) (by simp [results, Try.results44, go_sem, y0, y1]) rfl ⟨A', c', ds, b, As, cs, ss, rfl, hn, HSM.out, HBD.out, hs3, hss, ?_, ?_, ?_⟩
  · exact sd_of_own (own_setCell (own_setCell HO4.out (fun e => by have := (HO4.out.lt _ e).1; simp only at *; omega) _) (fun e => by have := (HO4.out.lt _ e).1; simp only at *; omega) _) (fun d hd => small_ok (HSM.out d hd))
  · exact ss_of_own (own_setCell (own_setCell HOS.out (fun e => by have := (HOS.out.lt _ e).1; simp only at *; omega) _) (fun e => by have := (HOS.out.lt _ e).1; simp only at *; omega) _) (fun s hs => by have := hss s hs; unfold maxLen; omega)
  · exact ((HB.out.grown HG4.out HB.out.size (fun k hk => by cases hk; omega)).setCell (Nat.le_refl _) _).setCell (Nat.le_refl _) _
end Go.Proofs.Ytmahjggkiikmgaa
