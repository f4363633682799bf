import Derived.Test.YtbkfagncoekbkaaGenC
import Derived.Test.YtbkfagncoekbkaaBaseG
import Derived.Test.YtbkfagncoekbkaaSortW
namespace Go.Proofs.Ytbkfagncoekbkaa
open Go.RowKit
set_option linter.unusedVariables false
set_option linter.unusedSimpArgs false
set_option maxRecDepth 100000

/-- Two drawn enumerations. -/
def DrawEE (w : World) (e : Ending) (w' : World) : Prop :=
  ∃ (Aa : Option Addr) (ca : Nat) (ds : List D) (Ab : Option Addr) (cc : Nat) (bs : List D), e = .returned (.tuple #[.agg #[.slice Aa ds.length ca], .agg #[.slice Ab bs.length cc]]) ∧ ds.length ≤ 25 ∧ bs.length ≤ 25 ∧ (∀ d ∈ ds, d.small) ∧ (∀ d ∈ bs, d.small) ∧ SD w' w'.heap.size Aa ds.length ca ds ∧ SD w' w'.heap.size Ab bs.length cc bs ∧ Below w.heap.size w w'
set_option maxHeartbeats 8000000 in
theorem drawMergeEnums_s (A : Option Addr) (n c : Nat) (zs : List Int) (w : World) (h : SB w w.heap.size A n c zs) :
    Calls Try.prog 49 #[.slice A n c] w (DrawEE w) := by
  have HS := Lib.hid h
  clear h
  obtain ⟨w0, hw⟩ : ∃ W : World, W = ((w.alloc (.cells #[.slice none 0 0] 58)).alloc (.cells #[.slice none 0 0] 58)) := ⟨_, rfl⟩
  have hb : Below w.heap.size w w0 := by rw [hw]; exact (((Below.refl _ _).alloc (by first | exact Nat.le_refl _ | (simp; done) | (simp; omega)) _).alloc (by first | exact Nat.le_refl _ | (simp; done) | (simp; omega)) _)
  have hz0 : w0.heap.size = w.heap.size + 2 := by rw [hw]; simp
  have X0_0 : Hid (Cl w0 (w.heap.size) (.slice none 0 0)) := Lib.hid (by rw [hw]; exact ⟨by simp [go_sem], by simp [go_sem]⟩)
  have X1_0 : Hid (Cl w0 (w.heap.size + 1) (.slice none 0 0)) := Lib.hid (by rw [hw]; exact ⟨by simp [go_sem], by simp [go_sem]⟩)
  have HSB : Hid (SB w0 w0.heap.size A n c zs) := Lib.hid (by rw [hw]; exact (HS.out.alloc0 _).alloc0 _)
  have HW0 : Hid (((w.alloc (.cells #[.slice none 0 0] 58)).alloc (.cells #[.slice none 0 0] 58)) = w0) := Lib.hid hw.symm
  have HB0 := Lib.hid hb
  clear hb hw HS
  go_enter Try.func49, Try.ntmps49
  go_wp2_with fail
  rw [HW0.out]
  refine (newReader_any A n c zs _ HSB.out).mono ?_
  rintro e w1 ⟨R, A1, cb, z1, rfl, hR, hr, hb⟩
  have hR2 : w.heap.size + 2 ≤ R := by omega
  have X0_1 := Lib.hid (X0_0.out.below hb)
  have X1_1 := Lib.hid (X1_0.out.below hb)
  have HB1 : Hid (Below w.heap.size w w1) := Lib.hid (HB0.out.trans (hb.mono HB0.out.size))
  have HR_1 := Lib.hid hr
  have hz1 : w.heap.size + 2 ≤ w1.heap.size := by have := hb.size; omega
  have hRl : R < w1.heap.size := hr.lt
  have hd1 : ¬ w.heap.size + 1 = w.heap.size := by omega
  have hd2 : ¬ w.heap.size = w.heap.size + 1 := by omega
  clear hb hr X0_0 X1_0 HSB HW0 HB0 hR hz0
  go_wp2_with fail
  refine (twoEnums_any R _ A1 cb z1 0 _ HR_1.out (by omega)).mono ?_
  rintro e w2 ⟨Aa, ca, ds, Ab, cc, bs, p2, rfl, hna, hnb, hsa, hsb, hoa, hob, hp2, hg, hr⟩
  have X0_2 := Lib.hid (X0_1.out.grown hg (fun e => by injection e with e; omega))
  have X1_2 := Lib.hid (X1_1.out.grown hg (fun e => by injection e with e; omega))
  have HG_2 : Hid (w1.grownBy w2 (some R)) := Lib.hid hg
  have HA_2 := Lib.hid hoa
  have HBb_2 := Lib.hid hob
  have HSa := Lib.hid hsa
  have HSb := Lib.hid hsb
  have HR_2 := Lib.hid hr
  have hz2 : w1.heap.size ≤ w2.heap.size := hg.size
  clear hg hr hoa hob hsa hsb X0_1 X1_1 HR_1
  obtain ⟨x0, y0⟩ := X0_2.out
  obtain ⟨x1, y1⟩ := X1_2.out
  go_wp2
  refine bodyPost_ret (v := .tuple #[.agg #[.slice Aa ds.length ca], .agg #[.slice Ab bs.length cc]]) (by simp [results, Try.results49, go_sem, x0, x1, hd1, hd2]) rfl ⟨Aa, ca, ds, Ab, cc, bs, rfl, hna, by omega, HSa.out, HSb.out, ?_, ?_, ?_⟩
  · exact sd_of_own (own_setCell (own_setCell HA_2.out (fun e => by have := (HA_2.out.lt _ e).1; simp only at this; omega) _) (fun e => by have := (HA_2.out.lt _ e).1; simp only at this; omega) _) (fun d hd => small_ok (HSa.out d hd))
  · exact sd_of_own (own_setCell (own_setCell HBb_2.out (fun e => by have := (HBb_2.out.lt _ e).1; simp only at this; omega) _) (fun e => by have := (HBb_2.out.lt _ e).1; simp only at this; omega) _) (fun d hd => small_ok (HSb.out d hd))
  · have hbb := HB1.out.grown HG_2.out HB1.out.size (fun k hk => by cases hk; omega)
    first
      | exact (hbb.setCell (by simp) _).setCell (by simp) _
      | exact ((hbb.setCell (Nat.le_refl _) _).drew.setCell (show w.heap.size ≤ w.heap.size + 1 by omega) _)
      | exact ((hbb.setCell (Nat.le_refl _) _).setCell (show w.heap.size ≤ w.heap.size + 1 by omega) _).drew
      | exact ((hbb.setCell (Nat.le_refl _) _).drew.setCell (show w.heap.size ≤ w.heap.size + 1 by omega) _).drew
set_option maxHeartbeats 8000000 in
theorem drawDiffEnums_s (A : Option Addr) (n c : Nat) (zs : List Int) (w : World) (h : SB w w.heap.size A n c zs) :
    Calls Try.prog 54 #[.slice A n c] w (DrawEE w) := by
  have HS := Lib.hid h
  clear h
  obtain ⟨w0, hw⟩ : ∃ W : World, W = ((w.alloc (.cells #[.slice none 0 0] 58)).alloc (.cells #[.slice none 0 0] 58)) := ⟨_, rfl⟩
  have hb : Below w.heap.size w w0 := by rw [hw]; exact (((Below.refl _ _).alloc (by first | exact Nat.le_refl _ | (simp; done) | (simp; omega)) _).alloc (by first | exact Nat.le_refl _ | (simp; done) | (simp; omega)) _)
  have hz0 : w0.heap.size = w.heap.size + 2 := by rw [hw]; simp
  have X0_0 : Hid (Cl w0 (w.heap.size) (.slice none 0 0)) := Lib.hid (by rw [hw]; exact ⟨by simp [go_sem], by simp [go_sem]⟩)
  have X1_0 : Hid (Cl w0 (w.heap.size + 1) (.slice none 0 0)) := Lib.hid (by rw [hw]; exact ⟨by simp [go_sem], by simp [go_sem]⟩)
  have HSB : Hid (SB w0 w0.heap.size A n c zs) := Lib.hid (by rw [hw]; exact (HS.out.alloc0 _).alloc0 _)
  have HW0 : Hid (((w.alloc (.cells #[.slice none 0 0] 58)).alloc (.cells #[.slice none 0 0] 58)) = w0) := Lib.hid hw.symm
  have HB0 := Lib.hid hb
  clear hb hw HS
  go_enter Try.func54, Try.ntmps54
  go_wp2_with fail
  rw [HW0.out]
  refine (newReader_any A n c zs _ HSB.out).mono ?_
  rintro e w1 ⟨R, A1, cb, z1, rfl, hR, hr, hb⟩
  have hR2 : w.heap.size + 2 ≤ R := by omega
  have X0_1 := Lib.hid (X0_0.out.below hb)
  have X1_1 := Lib.hid (X1_0.out.below hb)
  have HB1 : Hid (Below w.heap.size w w1) := Lib.hid (HB0.out.trans (hb.mono HB0.out.size))
  have HR_1 := Lib.hid hr
  have hz1 : w.heap.size + 2 ≤ w1.heap.size := by have := hb.size; omega
  have hRl : R < w1.heap.size := hr.lt
  have hd1 : ¬ w.heap.size + 1 = w.heap.size := by omega
  have hd2 : ¬ w.heap.size = w.heap.size + 1 := by omega
  clear hb hr X0_0 X1_0 HSB HW0 HB0 hR hz0
  go_wp2_with fail
  refine (twoEnums_any R _ A1 cb z1 0 _ HR_1.out (by omega)).mono ?_
  rintro e w2 ⟨Aa, ca, ds, Ab, cc, bs, p2, rfl, hna, hnb, hsa, hsb, hoa, hob, hp2, hg, hr⟩
  have X0_2 := Lib.hid (X0_1.out.grown hg (fun e => by injection e with e; omega))
  have X1_2 := Lib.hid (X1_1.out.grown hg (fun e => by injection e with e; omega))
  have HG_2 : Hid (w1.grownBy w2 (some R)) := Lib.hid hg
  have HA_2 := Lib.hid hoa
  have HBb_2 := Lib.hid hob
  have HSa := Lib.hid hsa
  have HSb := Lib.hid hsb
  have HR_2 := Lib.hid hr
  have hz2 : w1.heap.size ≤ w2.heap.size := hg.size
  clear hg hr hoa hob hsa hsb X0_1 X1_1 HR_1
  obtain ⟨x0, y0⟩ := X0_2.out
  obtain ⟨x1, y1⟩ := X1_2.out
  go_wp2
  refine bodyPost_ret (v := .tuple #[.agg #[.slice Aa ds.length ca], .agg #[.slice Ab bs.length cc]]) (by simp [results, Try.results54, go_sem, x0, x1, hd1, hd2]) rfl ⟨Aa, ca, ds, Ab, cc, bs, rfl, hna, by omega, HSa.out, HSb.out, ?_, ?_, ?_⟩
  · exact sd_of_own (own_setCell (own_setCell HA_2.out (fun e => by have := (HA_2.out.lt _ e).1; simp only at this; omega) _) (fun e => by have := (HA_2.out.lt _ e).1; simp only at this; omega) _) (fun d hd => small_ok (HSa.out d hd))
  · exact sd_of_own (own_setCell (own_setCell HBb_2.out (fun e => by have := (HBb_2.out.lt _ e).1; simp only at this; omega) _) (fun e => by have := (HBb_2.out.lt _ e).1; simp only at this; omega) _) (fun d hd => small_ok (HSb.out d hd))
  · have hbb := HB1.out.grown HG_2.out HB1.out.size (fun k hk => by cases hk; omega)
    first
      | exact (hbb.setCell (by simp) _).setCell (by simp) _
      | exact ((hbb.setCell (Nat.le_refl _) _).drew.setCell (show w.heap.size ≤ w.heap.size + 1 by omega) _)
      | exact ((hbb.setCell (Nat.le_refl _) _).setCell (show w.heap.size ≤ w.heap.size + 1 by omega) _).drew
      | exact ((hbb.setCell (Nat.le_refl _) _).drew.setCell (show w.heap.size ≤ w.heap.size + 1 by omega) _).drew
set_option maxHeartbeats 8000000 in
theorem drawReadsOld_s (A : Option Addr) (n c : Nat) (zs : List Int) (w : World) (h : SB w w.heap.size A n c zs) :
    Calls Try.prog 63 #[.slice A n c] w (DrawEE w) := by
  have HS := Lib.hid h
  clear h
  obtain ⟨w0, hw⟩ : ∃ W : World, W = ((w.alloc (.cells #[.slice none 0 0] 58)).alloc (.cells #[.slice none 0 0] 58)) := ⟨_, rfl⟩
  have hb : Below w.heap.size w w0 := by rw [hw]; exact (((Below.refl _ _).alloc (by first | exact Nat.le_refl _ | (simp; done) | (simp; omega)) _).alloc (by first | exact Nat.le_refl _ | (simp; done) | (simp; omega)) _)
  have hz0 : w0.heap.size = w.heap.size + 2 := by rw [hw]; simp
  have X0_0 : Hid (Cl w0 (w.heap.size) (.slice none 0 0)) := Lib.hid (by rw [hw]; exact ⟨by simp [go_sem], by simp [go_sem]⟩)
  have X1_0 : Hid (Cl w0 (w.heap.size + 1) (.slice none 0 0)) := Lib.hid (by rw [hw]; exact ⟨by simp [go_sem], by simp [go_sem]⟩)
  have HSB : Hid (SB w0 w0.heap.size A n c zs) := Lib.hid (by rw [hw]; exact (HS.out.alloc0 _).alloc0 _)
  have HW0 : Hid (((w.alloc (.cells #[.slice none 0 0] 58)).alloc (.cells #[.slice none 0 0] 58)) = w0) := Lib.hid hw.symm
  have HB0 := Lib.hid hb
  clear hb hw HS
  go_enter Try.func63, Try.ntmps63
  go_wp2_with fail
  rw [HW0.out]
  refine (newReader_any A n c zs _ HSB.out).mono ?_
  rintro e w1 ⟨R, A1, cb, z1, rfl, hR, hr, hb⟩
  have hR2 : w.heap.size + 2 ≤ R := by omega
  have X0_1 := Lib.hid (X0_0.out.below hb)
  have X1_1 := Lib.hid (X1_0.out.below hb)
  have HB1 : Hid (Below w.heap.size w w1) := Lib.hid (HB0.out.trans (hb.mono HB0.out.size))
  have HR_1 := Lib.hid hr
  have hz1 : w.heap.size + 2 ≤ w1.heap.size := by have := hb.size; omega
  have hRl : R < w1.heap.size := hr.lt
  have hd1 : ¬ w.heap.size + 1 = w.heap.size := by omega
  have hd2 : ¬ w.heap.size = w.heap.size + 1 := by omega
  clear hb hr X0_0 X1_0 HSB HW0 HB0 hR hz0
  go_wp2_with fail
  refine (twoEnums_any R _ A1 cb z1 0 _ HR_1.out (by omega)).mono ?_
  rintro e w2 ⟨Aa, ca, ds, Ab, cc, bs, p2, rfl, hna, hnb, hsa, hsb, hoa, hob, hp2, hg, hr⟩
  have X0_2 := Lib.hid (X0_1.out.grown hg (fun e => by injection e with e; omega))
  have X1_2 := Lib.hid (X1_1.out.grown hg (fun e => by injection e with e; omega))
  have HG_2 : Hid (w1.grownBy w2 (some R)) := Lib.hid hg
  have HA_2 := Lib.hid hoa
  have HBb_2 := Lib.hid hob
  have HSa := Lib.hid hsa
  have HSb := Lib.hid hsb
  have HR_2 := Lib.hid hr
  have hz2 : w1.heap.size ≤ w2.heap.size := hg.size
  clear hg hr hoa hob hsa hsb X0_1 X1_1 HR_1
  obtain ⟨x0, y0⟩ := X0_2.out
  obtain ⟨x1, y1⟩ := X1_2.out
  go_wp2
  refine bodyPost_ret (v := .tuple #[.agg #[.slice Aa ds.length ca], .agg #[.slice Ab bs.length cc]]) (by simp [results, Try.results63, go_sem, x0, x1, hd1, hd2]) rfl ⟨Aa, ca, ds, Ab, cc, bs, rfl, hna, by omega, HSa.out, HSb.out, ?_, ?_, ?_⟩
  · exact sd_of_own (own_setCell (own_setCell HA_2.out (fun e => by have := (HA_2.out.lt _ e).1; simp only at this; omega) _) (fun e => by have := (HA_2.out.lt _ e).1; simp only at this; omega) _) (fun d hd => small_ok (HSa.out d hd))
  · exact sd_of_own (own_setCell (own_setCell HBb_2.out (fun e => by have := (HBb_2.out.lt _ e).1; simp only at this; omega) _) (fun e => by have := (HBb_2.out.lt _ e).1; simp only at this; omega) _) (fun d hd => small_ok (HSb.out d hd))
  · have hbb := HB1.out.grown HG_2.out HB1.out.size (fun k hk => by cases hk; omega)
    first
      | exact (hbb.setCell (by simp) _).setCell (by simp) _
      | exact ((hbb.setCell (Nat.le_refl _) _).drew.setCell (show w.heap.size ≤ w.heap.size + 1 by omega) _)
      | exact ((hbb.setCell (Nat.le_refl _) _).setCell (show w.heap.size ≤ w.heap.size + 1 by omega) _).drew
      | exact ((hbb.setCell (Nat.le_refl _) _).drew.setCell (show w.heap.size ≤ w.heap.size + 1 by omega) _).drew
set_option maxHeartbeats 8000000 in
theorem drawSameMeaning_s (A : Option Addr) (n c : Nat) (zs : List Int) (w : World) (h : SB w w.heap.size A n c zs) :
    Calls Try.prog 60 #[.slice A n c] w (DrawEE w) := by
  have HS := Lib.hid h
  clear h
  obtain ⟨w0, hw⟩ : ∃ W : World, W = ((w.alloc (.cells #[.slice none 0 0] 58)).alloc (.cells #[.slice none 0 0] 58)) := ⟨_, rfl⟩
  have hb : Below w.heap.size w w0 := by rw [hw]; exact (((Below.refl _ _).alloc (by first | exact Nat.le_refl _ | (simp; done) | (simp; omega)) _).alloc (by first | exact Nat.le_refl _ | (simp; done) | (simp; omega)) _)
  have hz0 : w0.heap.size = w.heap.size + 2 := by rw [hw]; simp
  have X0_0 : Hid (Cl w0 (w.heap.size) (.slice none 0 0)) := Lib.hid (by rw [hw]; exact ⟨by simp [go_sem], by simp [go_sem]⟩)
  have X1_0 : Hid (Cl w0 (w.heap.size + 1) (.slice none 0 0)) := Lib.hid (by rw [hw]; exact ⟨by simp [go_sem], by simp [go_sem]⟩)
  have HSB : Hid (SB w0 w0.heap.size A n c zs) := Lib.hid (by rw [hw]; exact (HS.out.alloc0 _).alloc0 _)
  have HW0 : Hid (((w.alloc (.cells #[.slice none 0 0] 58)).alloc (.cells #[.slice none 0 0] 58)) = w0) := Lib.hid hw.symm
  have HB0 := Lib.hid hb
  clear hb hw HS
  go_enter Try.func60, Try.ntmps60
  go_wp2_with fail
  rw [HW0.out]
  refine (newReader_any A n c zs _ HSB.out).mono ?_
  rintro e w1 ⟨R, A1, cb, z1, rfl, hR, hr, hb⟩
  have hR2 : w.heap.size + 2 ≤ R := by omega
  have X0_1 := Lib.hid (X0_0.out.below hb)
  have X1_1 := Lib.hid (X1_0.out.below hb)
  have HB1 : Hid (Below w.heap.size w w1) := Lib.hid (HB0.out.trans (hb.mono HB0.out.size))
  have HR_1 := Lib.hid hr
  have hz1 : w.heap.size + 2 ≤ w1.heap.size := by have := hb.size; omega
  have hRl : R < w1.heap.size := hr.lt
  have hd1 : ¬ w.heap.size + 1 = w.heap.size := by omega
  have hd2 : ¬ w.heap.size = w.heap.size + 1 := by omega
  clear hb hr X0_0 X1_0 HSB HW0 HB0 hR hz0
  go_wp2_with fail
  refine (twoEnums_any R _ A1 cb z1 0 _ HR_1.out (by omega)).mono ?_
  rintro e w2 ⟨Aa, ca, ds, Ab, cc, bs, p2, rfl, hna, hnb, hsa, hsb, hoa, hob, hp2, hg, hr⟩
  have X0_2 := Lib.hid (X0_1.out.grown hg (fun e => by injection e with e; omega))
  have X1_2 := Lib.hid (X1_1.out.grown hg (fun e => by injection e with e; omega))
  have HG_2 : Hid (w1.grownBy w2 (some R)) := Lib.hid hg
  have HA_2 := Lib.hid hoa
  have HBb_2 := Lib.hid hob
  have HSa := Lib.hid hsa
  have HSb := Lib.hid hsb
  have HR_2 := Lib.hid hr
  have hz2 : w1.heap.size ≤ w2.heap.size := hg.size
  clear hg hr hoa hob hsa hsb X0_1 X1_1 HR_1
  obtain ⟨w3, hw⟩ : ∃ W : World, W = ((w2.alloc (.cells #[.slice Aa ds.length ca] 58)).alloc (.cells #[.slice Ab bs.length cc] 58)) := ⟨_, rfl⟩
  have hb : Below w2.heap.size w2 w3 := by rw [hw]; exact (((Below.refl _ _).alloc (by first | exact Nat.le_refl _ | (simp; done) | (simp; omega)) _).alloc (by first | exact Nat.le_refl _ | (simp; done) | (simp; omega)) _)
  have ca_3 : w3.cell? ⟨w2.heap.size, 0, none⟩ = some (.slice Aa ds.length ca) := by rw [hw]; simp [go_sem]
  have cb_3 : w3.cell? ⟨w2.heap.size + 1, 0, none⟩ = some (.slice Ab bs.length cc) := by rw [hw]; simp [go_sem]
  have HW3 : Hid (((w2.alloc (.cells #[.slice Aa ds.length ca] 58)).alloc (.cells #[.slice Ab bs.length cc] 58)) = w3) := Lib.hid hw.symm
  have hz3 : w2.heap.size + 2 ≤ w3.heap.size := by rw [hw]; simp
  have X0_3 := Lib.hid (X0_2.out.below hb)
  have X1_3 := Lib.hid (X1_2.out.below hb)
  have HA_3 := Lib.hid (own_below HA_2.out hb)
  have HBb_3 := Lib.hid (own_below HBb_2.out hb)
  have HG_3 : Hid (w1.grownBy w3 (some R)) := Lib.hid (grown_below HG_2.out (hb.mono HG_2.out.size))
  have HR_3 := Lib.hid (HR_2.out.below hb)
  clear hb hw X0_2 X1_2 HA_2 HBb_2 HG_2 HR_2
  go_wp2_with fail
  rw [HW3.out]
  clear HW3
  generalize w2.heap.size = G at *
  have n1 : G ≠ w.heap.size := by omega
  have n2 : w.heap.size ≠ G := by omega
  have n3 : G ≠ w.heap.size + 1 := by omega
  have n4 : w.heap.size + 1 ≠ G := by omega
  have n5 : G + 1 ≠ w.heap.size := by omega
  have n6 : G + 1 ≠ w.heap.size + 1 := by omega
  refine (pick_any 3 R _ A1 cb z1 p2 _ HR_3.out (by omega) (by omega) (by omega)).mono ?_
  rintro e w5 ⟨r, rfl, r0, r1, hg, hr⟩
  have ca_5 := hg.cell ca_3 (fun e => by have e2 : G = R := Option.some.inj e; omega)
  have cb_5 := hg.cell cb_3 (fun e => by have e2 : G + 1 = R := Option.some.inj e; omega)
  have X0_5 := Lib.hid (X0_3.out.grown hg (fun e => by injection e with e; omega))
  have X1_5 := Lib.hid (X1_3.out.grown hg (fun e => by injection e with e; omega))
  have HA_5 := Lib.hid (HA_3.out.kept hg (own_neR HA_3.out (by omega)))
  have HBb_5 := Lib.hid (HBb_3.out.kept hg (own_neR HBb_3.out (by omega)))
  have HG_5 : Hid (w1.grownBy w5 (some R)) := Lib.hid (HG_3.out.trans hg)
  have hz5 := hg.size
  clear hg hr ca_3 cb_3 X0_3 X1_3 HA_3 HBb_3 HG_3 HR_3
  by_cases hr0 : r = 0
  · subst hr0
    go_wp2_with fail
    have HSD : Hid (SD w5 w5.heap.size Aa ds.length ca ds) := Lib.hid (sd_of_own HA_5.out (fun d hd => small_ok (HSa.out d hd)))
    obtain ⟨ms, hms⟩ : ∃ ms, mSort ds = ms := ⟨_, rfl⟩
    have hnm : ms.length ≤ 25 := by rw [← hms]; exact Nat.le_trans (mSort_len ds) (by omega)
    have HSm : Hid (∀ d ∈ ms, d.small) := Lib.hid (by rw [← hms]; exact fun d hd => HSa.out d (mSort_mem hd))
    have HSO : Hid (∀ (A : Option Addr) (n c : Nat) (w : World), SD w w.heap.size A n c ds → Calls Try.prog 123 #[.agg #[.slice A n c]] w (EnumE ms w)) := Lib.hid (by rw [← hms]; exact fun A n c w h => specSort_any ds A n c w h)
    unfold EnumE at HSO
    clear hms
    go_region_held3 (fun w' => w'.cell? ⟨G, 0, none⟩ = some (.slice Aa ds.length ca)) (first | go_keep | exact ca_5 | exact ya | exact (World.cell?_setCell_other _ _ _ _ (by intro e; injection e with e1 e2; omega)).trans ya | exact (World.cell?_setCell_other _ _ _ _ (by intro e; injection e with e1 e2; omega)).trans ((World.cell?_setCell_other _ _ _ _ (by intro e; injection e with e1 e2; omega)).trans ya))
      (first
        | (go_at_call 123; refine (HSO.out _ _ _ _ (HSD.out.drewN 1)).mono ?_; rintro e w6 ⟨Am, cm, rfl, ho, hb⟩; replace hb : Below w5.heap.size w5 w6 := (by first | exact hb | exact undrew hb); have ya := keep1 hb ca_5; have X06 := Lib.hid (X0_5.out.below hb); have X16 := Lib.hid (X1_5.out.below hb); obtain ⟨x0, y0⟩ := X06.out; obtain ⟨x1, y1⟩ := X16.out))
    have HA_6 := Lib.hid (own_below HA_5.out hb)
    have HM_6 := Lib.hid (own_base ho (show w1.heap.size ≤ _ by simp; omega))
    have HG_6 : Hid (w1.grownBy w6 (some R)) := Lib.hid (grown_below HG_5.out (hb.mono HG_5.out.size))
    clear hb ho
    go_wp2
    refine bodyPost_ret (v := .tuple #[.agg #[.slice Aa ds.length ca], .agg #[.slice Am ms.length cm]]) (by simp [results, Try.results60, go_sem, x0, x1, hd1, hd2]) rfl ⟨Aa, ca, ds, Am, cm, ms, rfl, hna, hnm, HSa.out, HSm.out, ?_, ?_, ?_⟩
    · exact sd_of_own (own_setCell (own_setCell HA_6.out (fun e => by have := (HA_6.out.lt _ e).1; simp only at this; omega) _) (fun e => by have := (HA_6.out.lt _ e).1; simp only at this; omega) _) (fun d hd => small_ok (HSa.out d hd))
    · exact sd_of_own (own_setCell (own_setCell HM_6.out (fun e => by have := (HM_6.out.lt _ e).1; simp only at this; omega) _) (fun e => by have := (HM_6.out.lt _ e).1; simp only at this; omega) _) (fun d hd => small_ok (HSm.out d hd))
    · have hbb := HB1.out.grown HG_6.out HB1.out.size (fun k hk => by cases hk; omega)
      first
        | exact (hbb.setCell (by simp) _).setCell (by simp) _
        | exact ((hbb.setCell (Nat.le_refl _) _).drew.setCell (show w.heap.size ≤ w.heap.size + 1 by omega) _)
        | exact ((hbb.setCell (Nat.le_refl _) _).setCell (show w.heap.size ≤ w.heap.size + 1 by omega) _).drew
        | exact ((hbb.setCell (Nat.le_refl _) _).drew.setCell (show w.heap.size ≤ w.heap.size + 1 by omega) _).drew
  · obtain ⟨x0, y0⟩ := X0_5.out
    obtain ⟨x1, y1⟩ := X1_5.out
    go_wp2_with fail
    go_region_held3 (fun w' => w'.cell? ⟨G, 0, none⟩ = some (.slice Aa ds.length ca) ∧ w'.cell? ⟨G + 1, 0, none⟩ = some (.slice Ab bs.length cc)) (first | exact ⟨ca_5, cb_5⟩ | exact ⟨(World.cell?_setCell_other _ _ _ _ (by intro e; injection e with e1 e2; omega)).trans ca_5, (World.cell?_setCell_other _ _ _ _ (by intro e; injection e with e1 e2; omega)).trans cb_5⟩ | exact ⟨(World.cell?_setCell_other _ _ _ _ (by intro e; injection e with e1 e2; omega)).trans ((World.cell?_setCell_other _ _ _ _ (by intro e; injection e with e1 e2; omega)).trans ca_5), (World.cell?_setCell_other _ _ _ _ (by intro e; injection e with e1 e2; omega)).trans ((World.cell?_setCell_other _ _ _ _ (by intro e; injection e with e1 e2; omega)).trans cb_5)⟩) (fail)
    go_wp2
    refine bodyPost_ret (v := .tuple #[.agg #[.slice Aa ds.length ca], .agg #[.slice Ab bs.length cc]]) (by simp [results, Try.results60, go_sem, x0, x1, hd1, hd2]) rfl ⟨Aa, ca, ds, Ab, cc, bs, rfl, hna, by omega, HSa.out, HSb.out, ?_, ?_, ?_⟩
    · exact sd_of_own (own_setCell (own_setCell HA_5.out (fun e => by have := (HA_5.out.lt _ e).1; simp only at this; omega) _) (fun e => by have := (HA_5.out.lt _ e).1; simp only at this; omega) _) (fun d hd => small_ok (HSa.out d hd))
    · exact sd_of_own (own_setCell (own_setCell HBb_5.out (fun e => by have := (HBb_5.out.lt _ e).1; simp only at this; omega) _) (fun e => by have := (HBb_5.out.lt _ e).1; simp only at this; omega) _) (fun d hd => small_ok (HSb.out d hd))
    · have hbb := HB1.out.grown HG_5.out HB1.out.size (fun k hk => by cases hk; omega)
      first
        | exact (hbb.setCell (by simp) _).setCell (by simp) _
        | exact ((hbb.setCell (Nat.le_refl _) _).drew.setCell (show w.heap.size ≤ w.heap.size + 1 by omega) _)
        | exact ((hbb.setCell (Nat.le_refl _) _).setCell (show w.heap.size ≤ w.heap.size + 1 by omega) _).drew
        | exact ((hbb.setCell (Nat.le_refl _) _).drew.setCell (show w.heap.size ≤ w.heap.size + 1 by omega) _).drew
end Go.Proofs.Ytbkfagncoekbkaa
