import Derived.Test.YtbkfagncoekbkaaGenK
import Derived.Test.YtbkfagncoekbkaaBaseG
namespace Go.Proofs.Ytbkfagncoekbkaa
open Go.RowKit
set_option linter.unusedVariables false
set_option linter.unusedSimpArgs false
set_option maxRecDepth 100000

/-- A drawn enumeration and a list of names. -/
def DrawEL (w : World) (e : Ending) (w' : World) : Prop :=
  ∃ (A : Option Addr) (c : Nat) (ds : List D) (As : Option Addr) (cs : Nat) (ss : List ByteArray), e = .returned (.tuple #[.agg #[.slice A ds.length c], .slice As ss.length cs]) ∧ ds.length ≤ 25 ∧ (∀ d ∈ ds, d.small) ∧ ss.length ≤ 3 ∧ (∀ s ∈ ss, s.size ≤ 100) ∧ w'.ownsRow w.heap.size 37 2 (.slice A ds.length c) ds.length (flat ds) ∧ w'.ownsRow w.heap.size 9 1 (.slice As ss.length cs) ss.length (flatS ss) ∧ Below w.heap.size w w'
def DrawELs (w : World) (e : Ending) (w' : World) : Prop :=
  ∃ (A : Option Addr) (c : Nat) (ds : List D) (As : Option Addr) (cs : Nat) (ss : List ByteArray), e = .returned (.tuple #[.agg #[.slice A ds.length c], .slice As ss.length cs]) ∧ ds.length ≤ 25 ∧ (∀ d ∈ ds, d.small) ∧ ss.length ≤ 3 ∧ (∀ s ∈ ss, s.size ≤ 100) ∧ SD w' w'.heap.size A ds.length c ds ∧ SS w' w'.heap.size As ss.length cs ss ∧ Below w.heap.size w w'
theorem drawEL_s {w w' : World} {e : Ending} (h : DrawEL w e w') : DrawELs w e w' := by
  obtain ⟨A, c, ds, As, cs, ss, h1, h2, h3, h4, h5, h6, h7, h8⟩ := h
  exact ⟨A, c, ds, As, cs, ss, h1, h2, h3, h4, h5, sd_of_own h6 (fun d hd => small_ok (h3 d hd)), ss_of_own h7 (fun s hs => by have := h5 s hs; unfold maxLen; omega), h8⟩
set_option maxHeartbeats 8000000 in
theorem drawMissedMembers_any (A : Option Addr) (n c : Nat) (zs : List Int) (w : World) (h : SB w w.heap.size A n c zs) :
    Calls Try.prog 44 #[.slice A n c] w (DrawEL w) := by
  have HS := Lib.hid h
  clear h
  go_enter Try.func44, Try.ntmps44
  go_wp2_with fail
  refine (newReader_any A n c zs _ (HS.out.alloc0 _)).mono ?_
  rintro e w1 ⟨R, A1, cb, z1, rfl, hR, hr, hb⟩
  have hwR : w.heap.size ≠ R := by simp at hR; omega
  have X1 : Hid (Cl w1 w.heap.size (.slice none 0 0)) := Lib.hid (clNew hb)
  have HB : Hid (Below w.heap.size w w1) := Lib.hid (((Below.refl _ _).alloc (Nat.le_refl _) _).trans (hb.mono (by simp)))
  have HR1 := Lib.hid hr
  have hRl : w.heap.size + 1 ≤ R := by simpa using hR
  have hR1 := HR1.out.lt
  clear hr hb hR
  go_wp2_with fail
  refine (someEnum_any R _ A1 cb z1 0 _ HR1.out (by omega)).mono ?_
  rintro e w2 ⟨A', c', ds, p2, rfl, hn, hsm, hown, hp2, hg, hr⟩
  have X2 := Lib.hid (X1.out.grown hg (by simpa using hwR))
  have HG2 : Hid (w1.grownBy w2 (some R)) := Lib.hid hg
  have hz2 : w1.heap.size ≤ w2.heap.size := hg.size
  have HO2 := Lib.hid hown
  have HSM := Lib.hid hsm
  have HR2 := Lib.hid hr
  clear hg hown hsm X1 HR1 hr
  obtain ⟨w3, hw⟩ : ∃ W : World, W = w2.alloc (.cells #[.slice A' ds.length c'] 58) := ⟨_, rfl⟩
  have hb : Below w2.heap.size w2 w3 := by rw [hw]; exact (Below.refl _ _).alloc (Nat.le_refl _) _
  have d0 : w3.cell? ⟨w2.heap.size, 0, none⟩ = some (.slice A' ds.length c') := by rw [hw]; simp [go_sem]
  have hz3 : w2.heap.size + 1 ≤ w3.heap.size := by rw [hw]; simp
  have X3 := Lib.hid (X2.out.below hb)
  have HO3 := Lib.hid (own_below HO2.out hb)
  have HG3 : Hid (w1.grownBy w3 (some R)) := Lib.hid (HG2.out.trans (grown_of_below hb _))
  have HR3 := Lib.hid (HR2.out.below hb)
  have HW := Lib.hid hw.symm
  have hGR : w2.heap.size ≠ R := by omega
  have n1 : w2.heap.size ≠ w.heap.size := by omega
  have n2 : w.heap.size ≠ w2.heap.size := by omega
  clear hb hw X2 HO2 HG2 HR2
  go_wp2_with fail
  rw [HW.out]
  clear HW
  generalize hG : w2.heap.size = G at *
  clear hG
  go_region_held3 (fun w' => w'.cell? ⟨G, 0, none⟩ = some (.slice A' ds.length c')) (first | go_keep | exact d0 | exact x3)
    (first | (go_at_call 103; refine (someNames_any R _ A1 cb z1 p2 ds A' ds.length c' w1.heap.size _ (HR3.out.drewN 1) (by omega) (own_below HO3.out (below_drewN (Below.refl _ _) 1)) HSM.out (by omega) rfl hn).mono ?_; rintro e w4 ⟨As, cs, ss, p4, rfl, hs3, hss, hos, hp4, hg, hr⟩; replace hg : w3.grownBy w4 (some R) := ⟨hg.os, hg.tape, hg.output, hg.size, hg.block⟩; have X4 := Lib.hid (X3.out.grown hg (by simpa using hwR)); have x3 := hg.cell d0 (by simpa using hGR); have x0 := X4.out.1; have y0 := X4.out.2))
  have HO4 := Lib.hid (HO3.out.kept hg (own_neR HO3.out (by omega)))
  have HG4 : Hid (w1.grownBy w4 (some R)) := Lib.hid (HG3.out.trans hg)
  have HOS := Lib.hid (own_base hos (show w1.heap.size ≤ _ by simp; omega))
  clear hg hr hos
  go_wp2
  refine bodyPost_ret (v := .tuple #[.agg #[.slice A' ds.length c'], .slice As ss.length cs]) (by simp [results, Try.results44, go_sem, x0]) rfl ⟨A', c', ds, As, cs, ss, rfl, hn, HSM.out, hs3, hss, ?_, ?_, ?_⟩
  · exact own_base (own_setCell HO4.out (fun e => by have := (HO4.out.lt _ e).1; simp only at *; omega) _) (by omega)
  · exact own_base (own_setCell HOS.out (fun e => by have := (HOS.out.lt _ e).1; simp only at *; omega) _) (by omega)
  · exact (HB.out.grown HG4.out HB.out.size (fun k hk => by cases hk; omega)).setCell (Nat.le_refl _) _
theorem drawMissedMembers_s (A : Option Addr) (n c : Nat) (zs : List Int) (w : World) (h : SB w w.heap.size A n c zs) : Calls Try.prog 44 #[.slice A n c] w (DrawELs w) := (drawMissedMembers_any A n c zs w h).mono fun _ _ h => drawEL_s h
end Go.Proofs.Ytbkfagncoekbkaa
