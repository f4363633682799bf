import Derived.Test.YtpmanbmhbfnefaaBaseG
import Derived.Test.YtpmanbmhbfnefaaCel
import Derived.Deep.RegionHeld3
import Derived.Deep.RegionLawGrows
namespace Go.Proofs.Ytpmanbmhbfnefaa
open Go.RowKit
set_option linter.unusedVariables false
set_option maxRecDepth 100000

/-! ### drawn classes of flags -/
set_option maxHeartbeats 4000000 in
theorem goodDefs_flag (R B : Nat) (A : Option Addr) (cb : Nat) (zs : List Int) (p : Nat) (w : World) (h : Rdr w R B A cb zs p) (hp : p + 100 ≤ 100000) :
    Calls Try.prog 115 #[.pointer (some ⟨R, 0, none⟩), .int .i64 4095] w (GoodP R B A cb zs p w) := by
  have HR := Lib.hid h
  have HL := Lib.hid h.lt
  clear h
  go_enter Try.func115, Try.ntmps115
  have b1 : Below w.heap.size w (w.alloc (.cells #[] 48)) := (Below.refl _ _).alloc (Nat.le_refl _) _
  have HO1 : Hid ((w.alloc (.cells #[] 48)).ownsRow w.heap.size 48 2 (.slice (some ⟨w.heap.size, 0, none⟩) 0 0) 0 (flat [])) := Lib.hid (World.ownsRow_made w #[] 0 (Nat.le_refl _) (by unfold maxLen; omega) rfl)
  go_wp2_with fail
  refine (one_any 0 12 R B A cb zs p (w.heap.size + 1) 8 8 _ ((HR.out.below b1).below ((Below.refl _ _).alloc (by simp) _)) (by omega) (by have := HL.out; omega) (by omega) (by omega) (litI (by simp) rfl (by simp [allI]))).mono ?_
  rintro e w1 ⟨v, rfl, h0, h1, hgr, hr⟩
  obtain ⟨k, rfl⟩ := Int.eq_ofNat_of_zero_le h0
  have hg1 : (w.alloc (.cells #[] 48)).grownBy w1 (some R) := (World.grownBy_alloc _ _ _).trans hgr
  have HO2 := Lib.hid (HO1.out.kept hg1 (.inr (by simp [Value.ownBlock]; have := HL.out; omega)))
  have HG1 : Hid (w.grownBy w1 (some R)) := Lib.hid ((World.grownBy_alloc _ _ _).trans hg1)
  have HR1 := Lib.hid hr
  clear hr hgr hg1 b1 HO1
  go_wp2
  go_loopw [5, 6] (fun vv i wr => ∃ (ds : List D) (m p' : Nat), i = .int .i64 m ∧ ds.length + m ≤ 12 ∧ p' + 6 * m ≤ p + 1 + 6 * 12 ∧ Hid (∀ d ∈ ds, d.small) ∧ Hid (wr.ownsRow w.heap.size 48 2 vv ds.length (flat ds)) ∧ Hid (w.grownBy wr (some R)) ∧ Hid (Rdr wr R B A cb zs p')) (fun _ i _ => (intOf i).toNat)
  case atStart => exact ⟨[], k, p + 1, rfl, by simp; omega, by omega, Lib.hid (by simp), HO2, HG1, HR1⟩
  case round =>
    obtain ⟨ds, m, p', rfl, hm, hp', hsm, hown, hgr, hrd⟩ := hrel
    obtain ⟨A', c', hvv⟩ := own_form hown.out
    subst hvv
    by_cases hm0 : m = 0
    · subst hm0
      go_wp2
      go_ret
      exact ⟨A', c', ds, p', rfl, by omega, hsm.out, hown.out, by omega, hgr.out, hrd.out⟩
    · obtain ⟨m, rfl⟩ : ∃ q, m = q + 1 := ⟨m - 1, by omega⟩
      clear hm0
      have HS1 : Hid (1 ≤ w.heap.size) := Lib.hid (by have := HL.out; omega)
      go_wp2_with fail
      refine (aName_any R B A cb zs p' _ hrd.out (by omega)).mono ?_
      rintro e w2 ⟨s, rfl, hs, hg2, hr2⟩
      have HR2 := Lib.hid hr2
      have HG2 : Hid (w.grownBy w2 (some R)) := Lib.hid (hgr.out.trans hg2)
      have HO2 := Lib.hid (hown.out.kept hg2 (own_neR hown.out HL.out))
      clear hr2 hg2
      go_wp2_with fail
      refine (pick_any 12 R B A cb zs (p' + 1) _ HR2.out (by omega) (by omega) (by omega)).mono ?_
      rintro e w3 ⟨r, rfl, r0, r1, hg3, hr3⟩
      have r2 := r1 (by omega)
      have HR3 := Lib.hid hr3
      have HG3 : Hid (w.grownBy w3 (some R)) := Lib.hid (HG2.out.trans hg3)
      have HO3 := Lib.hid (HO2.out.kept hg3 (own_neR HO2.out HL.out))
      clear hr3 hg3 r1 HR2 HG2 HO2
      go_wp2_with fail
      refine (one_any (-1) 1000 R B A cb zs (p' + 1 + 1) w3.heap.size 12 12 _ (HR3.out.below ((Below.refl _ _).alloc (Nat.le_refl _) _)) (by omega) (by have := HR3.out.lt; omega) (by omega) (by omega) (litI rfl rfl (by simp [allI]; omega))).mono ?_
      rintro e w4 ⟨v, rfl, v0, v1, hg4, hr4⟩
      have HR4 := Lib.hid hr4
      have HG4 : Hid (w.grownBy w4 (some R)) := Lib.hid (HG3.out.trans ((World.grownBy_alloc _ _ _).trans hg4))
      have HO4 := Lib.hid (HO3.out.kept ((World.grownBy_alloc _ _ _).trans hg4) (own_neR HO3.out HL.out))
      have hsz4 : w.heap.size ≤ w4.heap.size := HG4.out.size
      have HNE : Hid ((Value.slice A' ds.length c').ownBlock ≠ some w4.heap.size) := Lib.hid (fun e => by have := (HO4.out.lt _ e).2; omega)
      clear hr4 hg4 HR3 HG3 HO3 r0 r2
      obtain ⟨w5, hw5⟩ : ∃ w5 : World, w5 = w4.alloc (.cells #[.string s, .int .i64 v] 48) := ⟨_, rfl⟩
      have hb5 : Below w4.heap.size w4 w5 := by rw [hw5]; exact (Below.refl _ _).alloc (Nat.le_refl _) _
      have HC5 : Hid (C2 w5 w4.heap.size (.string s) (.int .i64 v)) := Lib.hid (by rw [hw5]; exact c2New _ _ _ _)
      have HR5 := Lib.hid (HR4.out.below hb5)
      have HG5 : Hid (w.grownBy w5 (some R)) := Lib.hid (HG4.out.trans (grown_of_below hb5 _))
      have HO5 := Lib.hid (own_below HO4.out hb5)
      have HW5 := Lib.hid hw5.symm
      have hgR : w4.heap.size ≠ R := by have := HR4.out.lt; omega
      clear hb5 hw5 HR4 HG4 HO4
      go_wp2_with fail
      rw [HW5.out]
      refine (pick_any 64 R B A cb zs (p' + 1 + 1 + 1) _ HR5.out (by omega) (by omega) (by omega)).mono ?_
      rintro e w6 ⟨r, rfl, r0, r1, hg, hr⟩
      have r2 := r1 (by omega)
      have HR6 := Lib.hid hr
      have HG6 : Hid (w.grownBy w6 (some R)) := Lib.hid (HG5.out.trans hg)
      have HO6 := Lib.hid (HO5.out.kept hg (own_neR HO5.out HL.out))
      have HC6 := Lib.hid (HC5.out.grown hg (by simpa using hgR))
      clear hg hr r1 HR5 HG5 HO5 HC5 HW5
      go_wp2_with fail
      refine (one_any 0 2048 R B A cb zs (p' + 1 + 1 + 1 + 1) w6.heap.size 15 15 _ (HR6.out.below ((Below.refl _ _).alloc (Nat.le_refl _) _)) (by omega) (by have := HR6.out.lt; omega) (by omega) (by omega) (litI rfl rfl (by simp [allI]; omega))).mono ?_
      rintro e w7 ⟨u, rfl, u0, u1, hg, hr⟩
      have hgg := (World.grownBy_alloc w6 (.cells #[.int .i64 1, .int .i64 2, .int .i64 4, .int .i64 8, .int .i64 3, .int .i64 16, .int .i64 0, .int .i64 6, .int .i64 7, .int .i64 r, .int .i64 2048, .int .i64 5, .int .i64 1, .int .i64 2, .int .i64 4] 3) (some R)).trans hg
      have HR7 := Lib.hid hr
      have HG7 : Hid (w.grownBy w7 (some R)) := Lib.hid (HG6.out.trans hgg)
      have HO7 := Lib.hid (HO6.out.kept hgg (own_neR HO6.out HL.out))
      have HC7 := Lib.hid (HC6.out.grown hgg (by simpa using hgR))
      clear hg hr hgg HR6 HG6 HO6 HC6 r0 r2
      generalize w4.heap.size = G at *
      obtain ⟨c0, c1, f0, f1⟩ := HC7.out
      go_wp2_with fail
      obtain ⟨w8, hw8⟩ : ∃ w8 : World, w8 = w7.setCell ⟨G, 1, none⟩ (.int .i64 u) := ⟨_, rfl⟩
      have HC8 : Hid (C2 w8 G (.string s) (.int .i64 u)) := Lib.hid (by rw [hw8]; exact HC7.out.set1 _)
      have HR8 : Hid (Rdr w8 R B A cb zs (p' + 1 + 1 + 1 + 1 + 1)) := Lib.hid (by rw [hw8]; exact HR7.out.set (by show R < G; have := HL.out; omega) _)
      have HG8 : Hid (w.grownBy w8 (some R)) := Lib.hid (by rw [hw8]; exact grown_set HG7.out (by show w.heap.size ≤ G; omega) _)
      have HO8 : Hid (w8.ownsRow w.heap.size 48 2 (.slice A' ds.length c') ds.length (flat ds)) := Lib.hid (by rw [hw8]; exact own_setCell HO7.out HNE.out _)
      rw [← hw8]
      clear hw8 c0 c1 f0 f1 HR7 HG7 HO7 HC7
      obtain ⟨c0, c1, f0, f1⟩ := HC8.out
      have HS8 : Hid (SD w8 w8.heap.size A' ds.length c' ds) := Lib.hid (sd_of_own HO8.out (fun d hd => small_ok (hsm.out d hd)))
      cases hx : decide (fidx (isNm s) ds < 0)
      · have hx1 : ¬ fidx (isNm s) ds < 0 := of_decide_eq_false hx
        generalize hg : fidx (isNm s) ds = q at hx1
        have HG := Lib.hid hg
        clear hx hg
        refine (indexOf_v ds s _ _ _ _ HS8.out HG.out).mono ?_
        rintro e wx ⟨rfl, hwx⟩
        subst hwx
        go_wp2
        go_roundw
        case rel => exact ⟨ds, m, p' + 1 + 1 + 1 + 1 + 1, by go_num, by omega, by omega, hsm, HO8, HG8, HR8⟩
        case measure => simp [intOf]
      · have hx1 : fidx (isNm s) ds < 0 := of_decide_eq_true hx
        generalize hg : fidx (isNm s) ds = q at hx1
        have HG := Lib.hid hg
        clear hx hg
        refine (indexOf_v ds s _ _ _ _ HS8.out HG.out).mono ?_
        rintro e wx ⟨rfl, hwx⟩
        subst hwx
        go_wp2_with (at_builtin; refine wpList_app_D rfl _ _ rfl w.heap.size _ _ _ rfl HO8.out _ _ _ _ rfl (by first | rfl | simp) (by omega) (by have := HG8.out.size; omega) ?_; intro v' w9 ho6 hb6; have HO9 := Lib.hid ho6; have HB9 := Lib.hid hb6; clear ho6 hb6)
        all_goals
          go_roundw
          case rel => exact ⟨ds ++ [⟨s, u⟩], m, p' + 1 + 1 + 1 + 1 + 1, by go_num, by simp; omega, by omega, Lib.hid (by intro d hd; rcases List.mem_append.1 hd with hd | hd; exact hsm.out d hd; simp at hd; subst hd; exact ⟨hs, by show (-5000 : Int) ≤ u; omega, by show u ≤ 5000; omega⟩), Lib.hid (by simpa [flat, encD] using HO9.out), Lib.hid (grown_below HG8.out HB9.out), Lib.hid (HR8.out.belowL HB9.out HL.out)⟩
          case measure => simp [intOf]

/-- A drawn class of flags. -/
def GenFP (m q R B : Nat) (A : Option Addr) (cb : Nat) (zs : List Int) (p : Nat) (w : World) (e : Ending) (w' : World) : Prop :=
  ∃ (A' : Option Addr) (c : Nat) (ds : List D) (b : Int) (p' : Nat), e = .returned (.agg #[.slice A' ds.length c, .int .i64 b]) ∧ ds.length ≤ m ∧ (∀ d ∈ ds, d.small) ∧ (-1 ≤ b ∧ b ≤ 4) ∧
    w'.ownsRow w.heap.size 48 2 (.slice A' ds.length c) ds.length (flat ds) ∧ p' ≤ p + q ∧ w.grownBy w' (some R) ∧ Rdr w' R B A cb zs p'

set_option maxHeartbeats 4000000 in
theorem goodFlag_any (R B : Nat) (A : Option Addr) (cb : Nat) (zs : List Int) (p : Nat) (w : World) (h : Rdr w R B A cb zs p) (hp : p + 101 ≤ 100000) :
    Calls Try.prog 104 #[.pointer (some ⟨R, 0, none⟩)] w (GenFP 12 101 R B A cb zs p w) := by
  have HR := Lib.hid h
  have HL := Lib.hid h.lt
  clear h
  go_enter Try.func104, Try.ntmps104
  go_wp2_with fail
  have b1 : Below w.heap.size w (w.alloc (.cells #[.slice none 0 0, .int .i64 0] 58)) := (Below.refl _ _).alloc (Nat.le_refl _) _
  have hwR : w.heap.size ≠ R := by have := HL.out; omega
  have HC0 : Hid (C2 (w.alloc (.cells #[.slice none 0 0, .int .i64 0] 58)) w.heap.size (.slice none 0 0) (.int .i64 0)) := Lib.hid (c2New _ _ _ _)
  refine (goodDefs_flag R B A cb zs p _ (HR.out.below b1) (by omega)).mono ?_
  rintro e w1 ⟨A', c, ds, p', rfl, hn, hsm, hown, hp', hg, hr⟩
  have HC1 := Lib.hid (HC0.out.grown hg (by simpa using hwR))
  have HO1 := Lib.hid (own_base hown (show w.heap.size + 1 ≤ _ by simp))
  have HG1 : Hid (w.grownBy w1 (some R)) := Lib.hid ((World.grownBy_alloc _ _ _).trans hg)
  have HR1 := Lib.hid hr
  have HSM := Lib.hid hsm
  clear hg hown hr hsm b1 HC0
  go_wp2_with fail
  refine (pick_any 4 R B A cb zs p' _ HR1.out (by omega) (by omega) (by omega)).mono ?_
  rintro e w2 ⟨b, rfl, b0, b1, hg, hr⟩
  have b2 := b1 (by omega)
  have HG2 : Hid (w.grownBy w2 (some R)) := Lib.hid (HG1.out.trans hg)
  have HR2 := Lib.hid hr
  have HO2 := Lib.hid (HO1.out.kept hg (own_neR HO1.out (by have := HL.out; omega)))
  obtain ⟨c0, c1, f0, f1⟩ := HC1.out.grown hg (by simpa using hwR)
  clear hg hr b1
  go_wp2
  refine bodyPost_ret (v := .agg #[.slice A' ds.length c, .int .i64 b]) (by simp [results, Try.results104, go_sem, c0, c1]) rfl ⟨A', c, ds, b, p' + 1, rfl, hn, HSM.out, ⟨by omega, by omega⟩, ?_, by omega, ?_, ?_⟩
  · exact own_setCell (own_setCell (own_base HO2.out (by omega)) (fun e => by have := (HO2.out.lt _ e).1; simp at this; omega) _) (fun e => by have := (HO2.out.lt _ e).1; simp at this; omega) _
  · exact grown_set (grown_set HG2.out (Nat.le_refl _) _) (Nat.le_refl _) _
  · exact (HR2.out.set HL.out _).set HL.out _

theorem grown_undrew1 {w w' : World} {row : Option Nat} (h : (w.drewN 1).grownBy w' row) : w.grownBy w' row := ⟨h.os, h.tape, h.output, h.size, h.block⟩
theorem grown_undrew0 {w w' : World} {row : Option Nat} (h : w.drew.grownBy w' row) : w.grownBy w' row := ⟨h.os, h.tape, h.output, h.size, h.block⟩
theorem grown_undrewA {w w' : World} {o : Obj} {row : Option Nat} (h : (w.alloc o).drew.grownBy w' row) : w.grownBy w' row := (World.grownBy_alloc w o row).trans (grown_undrew0 h)
/-- Numbers of a list that was made a little earlier. -/
theorem litK {W W' : World} {row : Option Nat} {g n : Nat} {lo hi : Int} (h : ∀ i, i < n → ∃ v : Int, W.cell? ⟨g, i, none⟩ = some (.int .i64 v) ∧ lo ≤ v ∧ v ≤ hi) (hg : W.grownBy W' row) (hne : some g ≠ row) :
    ∀ i, i < n → ∃ v : Int, W'.cell? ⟨g, i, none⟩ = some (.int .i64 v) ∧ lo ≤ v ∧ v ≤ hi := fun i hi => by
  obtain ⟨v, h1, h2⟩ := h i hi
  exact ⟨v, hg.cell h1 hne, h2⟩
theorem Rdr.drew1 {w : World} {R B : Nat} {A : Option Addr} {cb : Nat} {zs : List Int} {p : Nat} (h : Rdr w R B A cb zs p) : Rdr w.drew R B A cb zs p := ⟨h.blk, Rd.drew h.rd, h.few, h.byt, h.low, h.pmax⟩
theorem grown_rowO {w W w' : World} {row r2 : Option Nat} (h : w.grownBy W row) (hg : W.grownBy w' r2) (hw : ∀ g, r2 = some g → w.heap.size ≤ g) : w.grownBy w' row :=
  ⟨hg.os.trans h.os, hg.tape.trans h.tape, hg.output.trans h.output, Nat.le_trans h.size hg.size, fun k hk hr => (hg.block k (Nat.lt_of_lt_of_le hk h.size) (fun e => by have := hw k e.symm; omega)).trans (h.block k hk hr)⟩

set_option maxHeartbeats 8000000 in
theorem someFlag_any (R B : Nat) (A : Option Addr) (cb : Nat) (zs : List Int) (p : Nat) (w : World) (h : Rdr w R B A cb zs p) (hp : p + 110 ≤ 100000) :
    Calls Try.prog 79 #[.pointer (some ⟨R, 0, none⟩)] w (GenFP 13 110 R B A cb zs p w) := by
  have HR := Lib.hid h
  have HL := Lib.hid h.lt
  clear h
  have hRw : R < w.heap.size := HL.out
  go_enter Try.func79, Try.ntmps79
  go_wp2_with fail
  have b1 : Below w.heap.size w (w.alloc (.cells #[.slice none 0 0, .int .i64 0] 58)) := (Below.refl _ _).alloc (Nat.le_refl _) _
  have hwR : w.heap.size ≠ R := by omega
  have HC0 : Hid (C2 (w.alloc (.cells #[.slice none 0 0, .int .i64 0] 58)) w.heap.size (.slice none 0 0) (.int .i64 0)) := Lib.hid (c2New _ _ _ _)
  refine (goodFlag_any R B A cb zs p _ (HR.out.below b1) (by omega)).mono ?_
  rintro e w1 ⟨A', c, ds, b, p', rfl, hn, hsm, hbd, hown, hp', hg, hr⟩
  have hbd1 := hbd.1
  have hbd2 := hbd.2
  have hz1 : w.heap.size + 1 ≤ w1.heap.size := by have := hg.size; simpa using this
  have HC1 := Lib.hid (HC0.out.grown hg (by simpa using hwR))
  have HO1 := Lib.hid (own_base hown (show w.heap.size + 1 ≤ _ by simp))
  have HG1 : Hid (w.grownBy w1 (some R)) := Lib.hid ((World.grownBy_alloc _ _ _).trans hg)
  have HR1 := Lib.hid hr
  have HSM := Lib.hid hsm
  have HNE : Hid ((Value.slice A' ds.length c).ownBlock ≠ some w1.heap.size) := Lib.hid (fun e => by have := (HO1.out.lt _ e).2; omega)
  clear hg hown hr hsm b1 HC0 hbd HR
  obtain ⟨w2, hw2⟩ : ∃ w2 : World, w2 = w1.alloc (.cells #[.slice A' ds.length c, .int .i64 b] 58) := ⟨_, rfl⟩
  have hb2 : Below w1.heap.size w1 w2 := by rw [hw2]; exact (Below.refl _ _).alloc (Nat.le_refl _) _
  have hz2 : w1.heap.size + 1 ≤ w2.heap.size := by rw [hw2]; simp
  have HC2 := Lib.hid (HC1.out.below hb2)
  have HD2 : Hid (C2 w2 w1.heap.size (.slice A' ds.length c) (.int .i64 b)) := Lib.hid (by rw [hw2]; exact c2New _ _ _ _)
  have HO2 := Lib.hid (own_below HO1.out hb2)
  have HG2 : Hid (w.grownBy w2 (some R)) := Lib.hid (HG1.out.trans (grown_of_below hb2 _))
  have HR2 := Lib.hid (HR1.out.below hb2)
  have HW2 := Lib.hid hw2.symm
  clear hb2 hw2 HC1 HO1 HG1 HR1
  go_wp2_with fail
  rw [HW2.out]
  generalize w1.heap.size = G at *
  have hGR : G ≠ R := by omega
  refine (pick_any 24 R B A cb zs p' _ HR2.out (by omega) (by omega) (by omega)).mono ?_
  rintro e w3 ⟨r, rfl, r0, r1, hg, hr⟩
  have hz3 : w2.heap.size ≤ w3.heap.size := hg.size
  have HC3 := Lib.hid (HC2.out.grown hg (by simpa using hwR))
  have HD3 := Lib.hid (HD2.out.grown hg (by simpa using hGR))
  have HO3 := Lib.hid (HO2.out.kept hg (own_neR HO2.out (by omega)))
  have HG3 : Hid (w.grownBy w3 (some R)) := Lib.hid (HG2.out.trans hg)
  have HR3 := Lib.hid hr
  clear hg hr HC2 HD2 HO2 HG2 HR2 HW2 r1
  obtain ⟨c0, c1, f0, f1⟩ := HC3.out
  obtain ⟨d0, d1, e0, g1⟩ := HD3.out
  have q1 : w.heap.size ≠ G := by omega
  have q2 : G ≠ w.heap.size := by omega
  by_cases q0 : r = 0
  · have z0 : (r == 0) = true := beq_iff_eq.2 q0
    clear q0
    go_wp2_with fail
    refine (one_any (-1) 4 R B A cb zs (p' + 1) w3.heap.size 2 2 _ (HR3.out.below ((Below.refl _ _).alloc (Nat.le_refl _) _)) (by omega) (by omega) (by omega) (by omega) (litI rfl rfl (by simp [allI]))).mono ?_
    rintro e w4 ⟨v, rfl, v0, v1, hg, hr⟩
    have hgg := (World.grownBy_alloc w3 (.cells #[.int .i64 (-1), .int .i64 4] 3) (some R)).trans hg
    have HO4 := Lib.hid (HO3.out.kept hgg (own_neR HO3.out (by omega)))
    have HG4 : Hid (w.grownBy w4 (some R)) := Lib.hid (HG3.out.trans hgg)
    have HR4 := Lib.hid hr
    have hc4 := HC3.out.grown hgg (by simpa using hwR)
    have hd4 := HD3.out.grown hgg (by simpa using hGR)
    clear c0 c1 f0 f1 d0 d1 e0 g1 HC3 HD3 HO3 HG3 HR3 hg hr hgg
    obtain ⟨c0, c1, f0, f1⟩ := hc4
    obtain ⟨d0, d1, e0, e1⟩ := hd4
    go_wp2
    refine bodyPost_ret (v := .agg #[.slice A' ds.length c, .int .i64 v]) (by simp [results, Try.results79, go_sem, c0, c1]) rfl ⟨A', c, ds, v, p' + 1 + 1, rfl, by omega, HSM.out, ⟨by omega, by omega⟩, ?_, by omega, ?_, ?_⟩
    · exact own_setCell (own_setCell (own_setCell (own_base HO4.out (by omega)) HNE.out _) (fun e => by have := (HO4.out.lt _ e).1; simp at this; omega) _) (fun e => by have := (HO4.out.lt _ e).1; simp at this; omega) _
    · exact grown_set (grown_set (grown_set HG4.out (by show w.heap.size ≤ G; omega) _) (Nat.le_refl _) _) (Nat.le_refl _) _
    · exact ((HR4.out.set (by show R < G; omega) _).set hRw _).set hRw _
  · by_cases q3 : r = 1
    · have z0 : (r == 0) = false := beq_eq_false_iff_ne.2 q0
      have z1 : (r == 1) = true := beq_iff_eq.2 q3
      clear q0 q3
      go_wp2_with fail
      refine wp_region_held_drew (S := fun _ => True) (by kernel_rfl) trivial (fun hHeld => ?_)
      refine wpAnyH_take (i := 0) (v := ?_) rfl (by kernel_rfl) (by kernel_rfl) (by kernel_rfl) (fun _ _ _ h => h) (Or.inl ⟨by rfl, ?_⟩) hHeld ?_
      rotate_left
      · intro w5 hSw
        first
        | (go_simp; done)
        | (go_simp; with_reducible rfl)
      try simp only [Act.put, List.setIfInBounds_toArray]
      refine wpAnyH_take (i := 2) (v := ?_) rfl (by kernel_rfl) (by kernel_rfl) (by kernel_rfl) (fun _ _ _ h => h) (Or.inl ⟨by rfl, ?_⟩) hHeld ?_
      rotate_left
      · intro w5 hSw
        first
        | (go_simp; done)
        | (go_simp; with_reducible rfl)
      try simp only [Act.put]
      refine wpAnyH_take (i := 4) (v := ?_) rfl (by kernel_rfl) (by kernel_rfl) (by kernel_rfl) (fun _ _ _ h => h) (Or.inl ⟨by rfl, ?_⟩) hHeld ?_
      rotate_left
      · intro w5 hSw
        first
        | (go_simp; done)
        | (go_simp; with_reducible rfl)
      try simp only [Act.put]
      refine wpAnyH_ready (rs := [1, 3, 5]) (by kernel_rfl) (by simp) ?_
      refine AllReadyH.cons rfl (fun K hK => ?_) ?_
      · go_simp
        refine hK.out _ _ trivial (fun hHeld => ?_)
        clear hK K
        try simp only [Act.put, List.setIfInBounds_toArray, List.set_cons_zero, List.set_cons_succ]
        refine wpAnyH_ready (rs := [3, 5]) (by kernel_rfl) (by simp) ?_
        refine AllReadyH.cons rfl (fun K hK => ?_) ?_
        · go_simp
          go_at_call 59
          refine (anyName_any R B A cb zs (p' + 1) w3.drew HR3.out.drew1 (by omega)).mono ?_
          rintro e wa ⟨s, pa, rfl, hsz, hpa, hga, hra⟩
          replace hga : w3.grownBy wa (some R) := grown_undrew0 hga
          have x3 := hga.cell d0 (by simpa using hGR)
          refine hK.out _ _ trivial (fun hHeld => ?_)
          clear hK K
          try simp only [Act.put, List.setIfInBounds_toArray, List.set_cons_zero, List.set_cons_succ]
          refine wpAnyH_ready (rs := [5]) (by kernel_rfl) (by simp) ?_
          refine AllReadyH.cons rfl (fun K hK => ?_) AllReadyH.nil
          go_simp
          refine hK.out _ _ trivial (fun hHeld => ?_)
          clear hK K
          try simp only [Act.put, List.setIfInBounds_toArray, List.set_cons_zero, List.set_cons_succ]
          refine wpAnyH_ready (rs := [6]) (by kernel_rfl) (by simp) ?_
          refine AllReadyH.cons rfl (fun K hK => ?_) AllReadyH.nil
          go_simp
          go_at_call 57
          refine (one_any (-1) 4096 R B A cb zs pa wa.heap.size 3 3 (wa.alloc (.cells #[.int .i64 (-1), .int .i64 4096, .int .i64 1] 3)) (hra.below ((Below.refl _ _).alloc (Nat.le_refl _) _)) (by omega) (by have := hga.size; omega) (by omega) (by omega) (litI rfl rfl (by simp [allI]))).mono ?_
          rintro e wb ⟨v, rfl, v0, v1, hgb, hrb⟩
          replace hgb : wa.grownBy wb (some R) := (World.grownBy_alloc _ _ _).trans hgb
          have y3 := hgb.cell x3 (by simpa using hGR)
          refine hK.out _ _ trivial (fun hHeld => ?_)
          clear hK K
          try simp only [Act.put, List.setIfInBounds_toArray, List.set_cons_zero, List.set_cons_succ]
          refine wpAnyH_take (i := 7) (v := ?_) rfl (by kernel_rfl) (by kernel_rfl) (by kernel_rfl) (fun _ _ _ h => h) (Or.inl ⟨by rfl, ?_⟩) hHeld ?_
          rotate_left
          · intro w5 hSw
            first
            | (go_simp; done)
            | (go_simp; with_reducible rfl)
          try simp only [Act.put, List.setIfInBounds_toArray]
          refine wpAnyH_ready (rs := [8]) (by kernel_rfl) (by simp) ?_
          refine AllReadyH.cons rfl (fun K hK => ?_) AllReadyH.nil
          go_simp
          refine hK.out _ _ trivial (fun hHeld => ?_)
          clear hK K
          try simp only [Act.put, List.setIfInBounds_toArray, List.set_cons_zero, List.set_cons_succ]
          refine wpAnyH_ready (rs := [9]) (by kernel_rfl) (by simp) ?_
          refine AllReadyH.cons rfl (fun K hK => ?_) AllReadyH.nil
          refine step_app_D rfl _ _ rfl (w.heap.size + 1) _ _ _ rfl (((HO3.out.kept hga (own_neR HO3.out (by omega))).kept hgb (own_neR (HO3.out.kept hga (own_neR HO3.out (by omega))) (by omega))).alloc _) s v _ _ rfl (heap_alloc_new wb _) (by omega) (by have := hga.size; have := hgb.size; simp; omega) ?_
          intro v' w4 ho hg4
          obtain ⟨A4, c4, rfl⟩ := own_form ho
          replace hg4 : wb.grownBy w4 (Value.slice A' ds.length c).ownBlock := (World.grownBy_alloc _ _ _).trans hg4
          have hdd := ((HD3.out.grown hga (by simpa using hGR)).grown hgb (by simpa using hGR)).grown hg4 (Ne.symm HNE.out)
          have t0 := hdd.c0
          have t1 := hdd.c1
          have t2 := hdd.f0
          have t3 := hdd.f1
          refine hK.out _ _ trivial (fun hHeld => ?_)
          clear hK K
          try simp only [Act.put, List.setIfInBounds_toArray]
          refine wpAnyH_take (i := 10) (v := ?_) rfl (by kernel_rfl) (by kernel_rfl) (by kernel_rfl) (fun _ _ _ h => h) (Or.inl ⟨by rfl, ?_⟩) hHeld ?_
          rotate_left
          · intro w5 hSw
            first
            | (go_simp; done)
            | (go_simp; with_reducible rfl)
          try simp only [Act.put]
          refine wpAnyH_ready (rs := [11]) (by kernel_rfl) (by simp) ?_
          refine AllReadyH.cons rfl (fun K hK => ?_) AllReadyH.nil
          go_simp
          refine hK.out _ _ trivial (fun hHeld => ?_)
          clear hK K
          try simp only [Act.put, List.setIfInBounds_toArray, List.set_cons_zero, List.set_cons_succ]
          refine wpAnyH_done (by kernel_rfl) ?_ _
          have HG4 := Lib.hid (grown_rowO (HG3.out.trans (hga.trans hgb)) hg4 (fun q hq => by have := (HO3.out.lt q hq).1; omega))
          have hr4 : Rdr w4 R B A cb zs (pa + 1) := hrb.grown hg4 (fun e => by have := (HO3.out.lt R e.symm).1; omega) (fun q hq => by have h1 := (HO3.out.lt q hq).1; have h2 := HR3.out.low; omega)
          have hcc := ((HC3.out.grown hga (by simpa using hwR)).grown hgb (by simpa using hwR)).grown hg4 (fun e => by have := (HO3.out.lt _ e.symm).1; omega)
          have HR4 := Lib.hid hr4
          rw [show flat ds ++ [Value.string s, Value.int .i64 v] = flat (ds ++ [⟨s, v⟩]) from by simp [flat, encD]] at ho
          have NE4 := Lib.hid (own_no_slice ho (by omega) t0)
          have HO4 := Lib.hid ho
          have e1 : Hid (ds.length + 1 = (ds ++ [(⟨s, v⟩ : D)]).length) := Lib.hid (by simp)
          clear c0 c1 f0 f1 d0 d1 e0 g1 HC3 HD3 HO3 HG3 HR3 hdd ho hr4 hg4
          obtain ⟨c0, c1, f0, f1⟩ := hcc
          go_wp2
          refine bodyPost_ret (v := .agg #[.slice A4 (ds.length + 1) c4, .int .i64 b]) (by simp [results, Try.results79, go_sem, c0, c1]) rfl ⟨A4, c4, ds ++ [⟨s, v⟩], b, pa + 1, by rw [e1.out], by simp; omega, small_app HSM.out (fun d hd => by simp at hd; subst hd; exact ⟨hsz, by show (-5000 : Int) ≤ v; omega, by show v ≤ 5000; omega⟩), ⟨by omega, by omega⟩, ?_, by omega, ?_, ?_⟩
          · rw [← e1.out]
            exact own_setCell (own_setCell (own_setCell (own_base HO4.out (by omega)) NE4.out _) (fun e => by have := (HO4.out.lt _ e).1; simp at this; omega) _) (fun e => by have := (HO4.out.lt _ e).1; simp at this; omega) _
          · exact grown_set (grown_set (grown_set HG4.out (by show w.heap.size ≤ G; omega) _) (Nat.le_refl _) _) (Nat.le_refl _) _
          · exact ((HR4.out.set (by show R < G; omega) _).set hRw _).set hRw _
        refine AllReadyH.cons rfl (fun K hK => ?_) AllReadyH.nil
        go_simp
        refine hK.out _ _ trivial (fun hHeld => ?_)
        clear hK K
        try simp only [Act.put, List.setIfInBounds_toArray, List.set_cons_zero, List.set_cons_succ]
        refine wpAnyH_ready (rs := [3]) (by kernel_rfl) (by simp) ?_
        refine AllReadyH.cons rfl (fun K hK => ?_) AllReadyH.nil
        go_simp
        go_at_call 59
        refine (anyName_any R B A cb zs (p' + 1) (w3.alloc (.cells #[.int .i64 (-1), .int .i64 4096, .int .i64 1] 3)).drew (HR3.out.below ((Below.refl _ _).alloc (Nat.le_refl _) _)).drew1 (by omega)).mono ?_
        rintro e wa ⟨s, pa, rfl, hsz, hpa, hga, hra⟩
        have hlit := litK (litI (W := w3) (t := 3) (cs := #[.int .i64 (-1), .int .i64 4096, .int .i64 1]) (n := 3) (lo := -1) (hi := 4096) rfl rfl (by simp [allI])) (grown_undrew0 hga) (by simp; omega)
        replace hga : w3.grownBy wa (some R) := grown_undrewA hga
        have x3 := hga.cell d0 (by simpa using hGR)
        refine hK.out _ _ trivial (fun hHeld => ?_)
        clear hK K
        try simp only [Act.put, List.setIfInBounds_toArray, List.set_cons_zero, List.set_cons_succ]
        refine wpAnyH_ready (rs := [6]) (by kernel_rfl) (by simp) ?_
        refine AllReadyH.cons rfl (fun K hK => ?_) AllReadyH.nil
        go_simp
        go_at_call 57
        refine (one_any (-1) 4096 R B A cb zs pa w3.heap.size 3 3 wa hra (by omega) (by omega) (by omega) (by omega) hlit).mono ?_
        rintro e wb ⟨v, rfl, v0, v1, hgb, hrb⟩
        have y3 := hgb.cell x3 (by simpa using hGR)
        refine hK.out _ _ trivial (fun hHeld => ?_)
        clear hK K
        try simp only [Act.put, List.setIfInBounds_toArray, List.set_cons_zero, List.set_cons_succ]
        refine wpAnyH_take (i := 7) (v := ?_) rfl (by kernel_rfl) (by kernel_rfl) (by kernel_rfl) (fun _ _ _ h => h) (Or.inl ⟨by rfl, ?_⟩) hHeld ?_
        rotate_left
        · intro w5 hSw
          first
          | (go_simp; done)
          | (go_simp; with_reducible rfl)
        try simp only [Act.put, List.setIfInBounds_toArray]
        refine wpAnyH_ready (rs := [8]) (by kernel_rfl) (by simp) ?_
        refine AllReadyH.cons rfl (fun K hK => ?_) AllReadyH.nil
        go_simp
        refine hK.out _ _ trivial (fun hHeld => ?_)
        clear hK K
        try simp only [Act.put, List.setIfInBounds_toArray, List.set_cons_zero, List.set_cons_succ]
        refine wpAnyH_ready (rs := [9]) (by kernel_rfl) (by simp) ?_
        refine AllReadyH.cons rfl (fun K hK => ?_) AllReadyH.nil
        refine step_app_D rfl _ _ rfl (w.heap.size + 1) _ _ _ rfl (((HO3.out.kept hga (own_neR HO3.out (by omega))).kept hgb (own_neR (HO3.out.kept hga (own_neR HO3.out (by omega))) (by omega))).alloc _) s v _ _ rfl (heap_alloc_new wb _) (by omega) (by have := hga.size; have := hgb.size; simp; omega) ?_
        intro v' w4 ho hg4
        obtain ⟨A4, c4, rfl⟩ := own_form ho
        replace hg4 : wb.grownBy w4 (Value.slice A' ds.length c).ownBlock := (World.grownBy_alloc _ _ _).trans hg4
        have hdd := ((HD3.out.grown hga (by simpa using hGR)).grown hgb (by simpa using hGR)).grown hg4 (Ne.symm HNE.out)
        have t0 := hdd.c0
        have t1 := hdd.c1
        have t2 := hdd.f0
        have t3 := hdd.f1
        refine hK.out _ _ trivial (fun hHeld => ?_)
        clear hK K
        try simp only [Act.put, List.setIfInBounds_toArray]
        refine wpAnyH_take (i := 10) (v := ?_) rfl (by kernel_rfl) (by kernel_rfl) (by kernel_rfl) (fun _ _ _ h => h) (Or.inl ⟨by rfl, ?_⟩) hHeld ?_
        rotate_left
        · intro w5 hSw
          first
          | (go_simp; done)
          | (go_simp; with_reducible rfl)
        try simp only [Act.put]
        refine wpAnyH_ready (rs := [11]) (by kernel_rfl) (by simp) ?_
        refine AllReadyH.cons rfl (fun K hK => ?_) AllReadyH.nil
        go_simp
        refine hK.out _ _ trivial (fun hHeld => ?_)
        clear hK K
        try simp only [Act.put, List.setIfInBounds_toArray, List.set_cons_zero, List.set_cons_succ]
        refine wpAnyH_done (by kernel_rfl) ?_ _
        have HG4 := Lib.hid (grown_rowO (HG3.out.trans (hga.trans hgb)) hg4 (fun q hq => by have := (HO3.out.lt q hq).1; omega))
        have hr4 : Rdr w4 R B A cb zs (pa + 1) := hrb.grown hg4 (fun e => by have := (HO3.out.lt R e.symm).1; omega) (fun q hq => by have h1 := (HO3.out.lt q hq).1; have h2 := HR3.out.low; omega)
        have hcc := ((HC3.out.grown hga (by simpa using hwR)).grown hgb (by simpa using hwR)).grown hg4 (fun e => by have := (HO3.out.lt _ e.symm).1; omega)
        have HR4 := Lib.hid hr4
        rw [show flat ds ++ [Value.string s, Value.int .i64 v] = flat (ds ++ [⟨s, v⟩]) from by simp [flat, encD]] at ho
        have NE4 := Lib.hid (own_no_slice ho (by omega) t0)
        have HO4 := Lib.hid ho
        have e1 : Hid (ds.length + 1 = (ds ++ [(⟨s, v⟩ : D)]).length) := Lib.hid (by simp)
        clear c0 c1 f0 f1 d0 d1 e0 g1 HC3 HD3 HO3 HG3 HR3 hdd ho hr4 hg4
        obtain ⟨c0, c1, f0, f1⟩ := hcc
        go_wp2
        refine bodyPost_ret (v := .agg #[.slice A4 (ds.length + 1) c4, .int .i64 b]) (by simp [results, Try.results79, go_sem, c0, c1]) rfl ⟨A4, c4, ds ++ [⟨s, v⟩], b, pa + 1, by rw [e1.out], by simp; omega, small_app HSM.out (fun d hd => by simp at hd; subst hd; exact ⟨hsz, by show (-5000 : Int) ≤ v; omega, by show v ≤ 5000; omega⟩), ⟨by omega, by omega⟩, ?_, by omega, ?_, ?_⟩
        · rw [← e1.out]
          exact own_setCell (own_setCell (own_setCell (own_base HO4.out (by omega)) NE4.out _) (fun e => by have := (HO4.out.lt _ e).1; simp at this; omega) _) (fun e => by have := (HO4.out.lt _ e).1; simp at this; omega) _
        · exact grown_set (grown_set (grown_set HG4.out (by show w.heap.size ≤ G; omega) _) (Nat.le_refl _) _) (Nat.le_refl _) _
        · exact ((HR4.out.set (by show R < G; omega) _).set hRw _).set hRw _
      refine AllReadyH.cons rfl (fun K hK => ?_) ?_
      · go_simp
        go_at_call 59
        refine (anyName_any R B A cb zs (p' + 1) w3.drew HR3.out.drew1 (by omega)).mono ?_
        rintro e wa ⟨s, pa, rfl, hsz, hpa, hga, hra⟩
        replace hga : w3.grownBy wa (some R) := grown_undrew0 hga
        have x3 := hga.cell d0 (by simpa using hGR)
        refine hK.out _ _ trivial (fun hHeld => ?_)
        clear hK K
        try simp only [Act.put, List.setIfInBounds_toArray, List.set_cons_zero, List.set_cons_succ]
        refine wpAnyH_ready (rs := [1, 5]) (by kernel_rfl) (by simp) ?_
        refine AllReadyH.cons rfl (fun K hK => ?_) ?_
        · go_simp
          refine hK.out _ _ trivial (fun hHeld => ?_)
          clear hK K
          try simp only [Act.put, List.setIfInBounds_toArray, List.set_cons_zero, List.set_cons_succ]
          refine wpAnyH_ready (rs := [5]) (by kernel_rfl) (by simp) ?_
          refine AllReadyH.cons rfl (fun K hK => ?_) AllReadyH.nil
          go_simp
          refine hK.out _ _ trivial (fun hHeld => ?_)
          clear hK K
          try simp only [Act.put, List.setIfInBounds_toArray, List.set_cons_zero, List.set_cons_succ]
          refine wpAnyH_ready (rs := [6]) (by kernel_rfl) (by simp) ?_
          refine AllReadyH.cons rfl (fun K hK => ?_) AllReadyH.nil
          go_simp
          go_at_call 57
          refine (one_any (-1) 4096 R B A cb zs pa wa.heap.size 3 3 (wa.alloc (.cells #[.int .i64 (-1), .int .i64 4096, .int .i64 1] 3)) (hra.below ((Below.refl _ _).alloc (Nat.le_refl _) _)) (by omega) (by have := hga.size; omega) (by omega) (by omega) (litI rfl rfl (by simp [allI]))).mono ?_
          rintro e wb ⟨v, rfl, v0, v1, hgb, hrb⟩
          replace hgb : wa.grownBy wb (some R) := (World.grownBy_alloc _ _ _).trans hgb
          have y3 := hgb.cell x3 (by simpa using hGR)
          refine hK.out _ _ trivial (fun hHeld => ?_)
          clear hK K
          try simp only [Act.put, List.setIfInBounds_toArray, List.set_cons_zero, List.set_cons_succ]
          refine wpAnyH_take (i := 7) (v := ?_) rfl (by kernel_rfl) (by kernel_rfl) (by kernel_rfl) (fun _ _ _ h => h) (Or.inl ⟨by rfl, ?_⟩) hHeld ?_
          rotate_left
          · intro w5 hSw
            first
            | (go_simp; done)
            | (go_simp; with_reducible rfl)
          try simp only [Act.put, List.setIfInBounds_toArray]
          refine wpAnyH_ready (rs := [8]) (by kernel_rfl) (by simp) ?_
          refine AllReadyH.cons rfl (fun K hK => ?_) AllReadyH.nil
          go_simp
          refine hK.out _ _ trivial (fun hHeld => ?_)
          clear hK K
          try simp only [Act.put, List.setIfInBounds_toArray, List.set_cons_zero, List.set_cons_succ]
          refine wpAnyH_ready (rs := [9]) (by kernel_rfl) (by simp) ?_
          refine AllReadyH.cons rfl (fun K hK => ?_) AllReadyH.nil
          refine step_app_D rfl _ _ rfl (w.heap.size + 1) _ _ _ rfl (((HO3.out.kept hga (own_neR HO3.out (by omega))).kept hgb (own_neR (HO3.out.kept hga (own_neR HO3.out (by omega))) (by omega))).alloc _) s v _ _ rfl (heap_alloc_new wb _) (by omega) (by have := hga.size; have := hgb.size; simp; omega) ?_
          intro v' w4 ho hg4
          obtain ⟨A4, c4, rfl⟩ := own_form ho
          replace hg4 : wb.grownBy w4 (Value.slice A' ds.length c).ownBlock := (World.grownBy_alloc _ _ _).trans hg4
          have hdd := ((HD3.out.grown hga (by simpa using hGR)).grown hgb (by simpa using hGR)).grown hg4 (Ne.symm HNE.out)
          have t0 := hdd.c0
          have t1 := hdd.c1
          have t2 := hdd.f0
          have t3 := hdd.f1
          refine hK.out _ _ trivial (fun hHeld => ?_)
          clear hK K
          try simp only [Act.put, List.setIfInBounds_toArray]
          refine wpAnyH_take (i := 10) (v := ?_) rfl (by kernel_rfl) (by kernel_rfl) (by kernel_rfl) (fun _ _ _ h => h) (Or.inl ⟨by rfl, ?_⟩) hHeld ?_
          rotate_left
          · intro w5 hSw
            first
            | (go_simp; done)
            | (go_simp; with_reducible rfl)
          try simp only [Act.put]
          refine wpAnyH_ready (rs := [11]) (by kernel_rfl) (by simp) ?_
          refine AllReadyH.cons rfl (fun K hK => ?_) AllReadyH.nil
          go_simp
          refine hK.out _ _ trivial (fun hHeld => ?_)
          clear hK K
          try simp only [Act.put, List.setIfInBounds_toArray, List.set_cons_zero, List.set_cons_succ]
          refine wpAnyH_done (by kernel_rfl) ?_ _
          have HG4 := Lib.hid (grown_rowO (HG3.out.trans (hga.trans hgb)) hg4 (fun q hq => by have := (HO3.out.lt q hq).1; omega))
          have hr4 : Rdr w4 R B A cb zs (pa + 1) := hrb.grown hg4 (fun e => by have := (HO3.out.lt R e.symm).1; omega) (fun q hq => by have h1 := (HO3.out.lt q hq).1; have h2 := HR3.out.low; omega)
          have hcc := ((HC3.out.grown hga (by simpa using hwR)).grown hgb (by simpa using hwR)).grown hg4 (fun e => by have := (HO3.out.lt _ e.symm).1; omega)
          have HR4 := Lib.hid hr4
          rw [show flat ds ++ [Value.string s, Value.int .i64 v] = flat (ds ++ [⟨s, v⟩]) from by simp [flat, encD]] at ho
          have NE4 := Lib.hid (own_no_slice ho (by omega) t0)
          have HO4 := Lib.hid ho
          have e1 : Hid (ds.length + 1 = (ds ++ [(⟨s, v⟩ : D)]).length) := Lib.hid (by simp)
          clear c0 c1 f0 f1 d0 d1 e0 g1 HC3 HD3 HO3 HG3 HR3 hdd ho hr4 hg4
          obtain ⟨c0, c1, f0, f1⟩ := hcc
          go_wp2
          refine bodyPost_ret (v := .agg #[.slice A4 (ds.length + 1) c4, .int .i64 b]) (by simp [results, Try.results79, go_sem, c0, c1]) rfl ⟨A4, c4, ds ++ [⟨s, v⟩], b, pa + 1, by rw [e1.out], by simp; omega, small_app HSM.out (fun d hd => by simp at hd; subst hd; exact ⟨hsz, by show (-5000 : Int) ≤ v; omega, by show v ≤ 5000; omega⟩), ⟨by omega, by omega⟩, ?_, by omega, ?_, ?_⟩
          · rw [← e1.out]
            exact own_setCell (own_setCell (own_setCell (own_base HO4.out (by omega)) NE4.out _) (fun e => by have := (HO4.out.lt _ e).1; simp at this; omega) _) (fun e => by have := (HO4.out.lt _ e).1; simp at this; omega) _
          · exact grown_set (grown_set (grown_set HG4.out (by show w.heap.size ≤ G; omega) _) (Nat.le_refl _) _) (Nat.le_refl _) _
          · exact ((HR4.out.set (by show R < G; omega) _).set hRw _).set hRw _
        refine AllReadyH.cons rfl (fun K hK => ?_) AllReadyH.nil
        go_simp
        refine hK.out _ _ trivial (fun hHeld => ?_)
        clear hK K
        try simp only [Act.put, List.setIfInBounds_toArray, List.set_cons_zero, List.set_cons_succ]
        refine wpAnyH_ready (rs := [1, 6]) (by kernel_rfl) (by simp) ?_
        refine AllReadyH.cons rfl (fun K hK => ?_) ?_
        · have lA : (wa.alloc (.cells #[.int .i64 (-1), .int .i64 4096, .int .i64 1] 3)).cell? ⟨G, 0, none⟩ = some (.slice A' ds.length c) := (World.cell?_alloc_some _ _ _ (by rw [x3]; rfl)).trans x3
          go_simp
          refine hK.out _ _ trivial (fun hHeld => ?_)
          clear hK K
          try simp only [Act.put, List.setIfInBounds_toArray, List.set_cons_zero, List.set_cons_succ]
          refine wpAnyH_ready (rs := [6]) (by kernel_rfl) (by simp) ?_
          refine AllReadyH.cons rfl (fun K hK => ?_) AllReadyH.nil
          go_simp
          go_at_call 57
          refine (one_any (-1) 4096 R B A cb zs pa wa.heap.size 3 3 (wa.alloc (.cells #[.int .i64 (-1), .int .i64 4096, .int .i64 1] 3)) (hra.below ((Below.refl _ _).alloc (Nat.le_refl _) _)) (by omega) (by have := hga.size; omega) (by omega) (by omega) (litI rfl rfl (by simp [allI]))).mono ?_
          rintro e wb ⟨v, rfl, v0, v1, hgb, hrb⟩
          replace hgb : wa.grownBy wb (some R) := (World.grownBy_alloc _ _ _).trans hgb
          have y3 := hgb.cell x3 (by simpa using hGR)
          refine hK.out _ _ trivial (fun hHeld => ?_)
          clear hK K
          try simp only [Act.put, List.setIfInBounds_toArray, List.set_cons_zero, List.set_cons_succ]
          refine wpAnyH_take (i := 7) (v := ?_) rfl (by kernel_rfl) (by kernel_rfl) (by kernel_rfl) (fun _ _ _ h => h) (Or.inl ⟨by rfl, ?_⟩) hHeld ?_
          rotate_left
          · intro w5 hSw
            first
            | (go_simp; done)
            | (go_simp; with_reducible rfl)
          try simp only [Act.put, List.setIfInBounds_toArray]
          refine wpAnyH_ready (rs := [8]) (by kernel_rfl) (by simp) ?_
          refine AllReadyH.cons rfl (fun K hK => ?_) AllReadyH.nil
          go_simp
          refine hK.out _ _ trivial (fun hHeld => ?_)
          clear hK K
          try simp only [Act.put, List.setIfInBounds_toArray, List.set_cons_zero, List.set_cons_succ]
          refine wpAnyH_ready (rs := [9]) (by kernel_rfl) (by simp) ?_
          refine AllReadyH.cons rfl (fun K hK => ?_) AllReadyH.nil
          refine step_app_D rfl _ _ rfl (w.heap.size + 1) _ _ _ rfl (((HO3.out.kept hga (own_neR HO3.out (by omega))).kept hgb (own_neR (HO3.out.kept hga (own_neR HO3.out (by omega))) (by omega))).alloc _) s v _ _ rfl (heap_alloc_new wb _) (by omega) (by have := hga.size; have := hgb.size; simp; omega) ?_
          intro v' w4 ho hg4
          obtain ⟨A4, c4, rfl⟩ := own_form ho
          replace hg4 : wb.grownBy w4 (Value.slice A' ds.length c).ownBlock := (World.grownBy_alloc _ _ _).trans hg4
          have hdd := ((HD3.out.grown hga (by simpa using hGR)).grown hgb (by simpa using hGR)).grown hg4 (Ne.symm HNE.out)
          have t0 := hdd.c0
          have t1 := hdd.c1
          have t2 := hdd.f0
          have t3 := hdd.f1
          refine hK.out _ _ trivial (fun hHeld => ?_)
          clear hK K
          try simp only [Act.put, List.setIfInBounds_toArray]
          refine wpAnyH_take (i := 10) (v := ?_) rfl (by kernel_rfl) (by kernel_rfl) (by kernel_rfl) (fun _ _ _ h => h) (Or.inl ⟨by rfl, ?_⟩) hHeld ?_
          rotate_left
          · intro w5 hSw
            first
            | (go_simp; done)
            | (go_simp; with_reducible rfl)
          try simp only [Act.put]
          refine wpAnyH_ready (rs := [11]) (by kernel_rfl) (by simp) ?_
          refine AllReadyH.cons rfl (fun K hK => ?_) AllReadyH.nil
          go_simp
          refine hK.out _ _ trivial (fun hHeld => ?_)
          clear hK K
          try simp only [Act.put, List.setIfInBounds_toArray, List.set_cons_zero, List.set_cons_succ]
          refine wpAnyH_done (by kernel_rfl) ?_ _
          have HG4 := Lib.hid (grown_rowO (HG3.out.trans (hga.trans hgb)) hg4 (fun q hq => by have := (HO3.out.lt q hq).1; omega))
          have hr4 : Rdr w4 R B A cb zs (pa + 1) := hrb.grown hg4 (fun e => by have := (HO3.out.lt R e.symm).1; omega) (fun q hq => by have h1 := (HO3.out.lt q hq).1; have h2 := HR3.out.low; omega)
          have hcc := ((HC3.out.grown hga (by simpa using hwR)).grown hgb (by simpa using hwR)).grown hg4 (fun e => by have := (HO3.out.lt _ e.symm).1; omega)
          have HR4 := Lib.hid hr4
          rw [show flat ds ++ [Value.string s, Value.int .i64 v] = flat (ds ++ [⟨s, v⟩]) from by simp [flat, encD]] at ho
          have NE4 := Lib.hid (own_no_slice ho (by omega) t0)
          have HO4 := Lib.hid ho
          have e1 : Hid (ds.length + 1 = (ds ++ [(⟨s, v⟩ : D)]).length) := Lib.hid (by simp)
          clear c0 c1 f0 f1 d0 d1 e0 g1 HC3 HD3 HO3 HG3 HR3 hdd ho hr4 hg4
          obtain ⟨c0, c1, f0, f1⟩ := hcc
          go_wp2
          refine bodyPost_ret (v := .agg #[.slice A4 (ds.length + 1) c4, .int .i64 b]) (by simp [results, Try.results79, go_sem, c0, c1]) rfl ⟨A4, c4, ds ++ [⟨s, v⟩], b, pa + 1, by rw [e1.out], by simp; omega, small_app HSM.out (fun d hd => by simp at hd; subst hd; exact ⟨hsz, by show (-5000 : Int) ≤ v; omega, by show v ≤ 5000; omega⟩), ⟨by omega, by omega⟩, ?_, by omega, ?_, ?_⟩
          · rw [← e1.out]
            exact own_setCell (own_setCell (own_setCell (own_base HO4.out (by omega)) NE4.out _) (fun e => by have := (HO4.out.lt _ e).1; simp at this; omega) _) (fun e => by have := (HO4.out.lt _ e).1; simp at this; omega) _
          · exact grown_set (grown_set (grown_set HG4.out (by show w.heap.size ≤ G; omega) _) (Nat.le_refl _) _) (Nat.le_refl _) _
          · exact ((HR4.out.set (by show R < G; omega) _).set hRw _).set hRw _
        refine AllReadyH.cons rfl (fun K hK => ?_) AllReadyH.nil
        go_simp
        go_at_call 57
        refine (one_any (-1) 4096 R B A cb zs pa wa.heap.size 3 3 (wa.alloc (.cells #[.int .i64 (-1), .int .i64 4096, .int .i64 1] 3)) (hra.below ((Below.refl _ _).alloc (Nat.le_refl _) _)) (by omega) (by have := hga.size; omega) (by omega) (by omega) (litI rfl rfl (by simp [allI]))).mono ?_
        rintro e wb ⟨v, rfl, v0, v1, hgb, hrb⟩
        replace hgb : wa.grownBy wb (some R) := (World.grownBy_alloc _ _ _).trans hgb
        have y3 := hgb.cell x3 (by simpa using hGR)
        refine hK.out _ _ trivial (fun hHeld => ?_)
        clear hK K
        try simp only [Act.put, List.setIfInBounds_toArray, List.set_cons_zero, List.set_cons_succ]
        refine wpAnyH_take (i := 7) (v := ?_) rfl (by kernel_rfl) (by kernel_rfl) (by kernel_rfl) (fun _ _ _ h => h) (Or.inl ⟨by rfl, ?_⟩) hHeld ?_
        rotate_left
        · intro w5 hSw
          first
          | (go_simp; done)
          | (go_simp; with_reducible rfl)
        try simp only [Act.put, List.setIfInBounds_toArray]
        refine wpAnyH_ready (rs := [1, 8]) (by kernel_rfl) (by simp) ?_
        refine AllReadyH.cons rfl (fun K hK => ?_) ?_
        · go_simp
          refine hK.out _ _ trivial (fun hHeld => ?_)
          clear hK K
          try simp only [Act.put, List.setIfInBounds_toArray, List.set_cons_zero, List.set_cons_succ]
          refine wpAnyH_ready (rs := [8]) (by kernel_rfl) (by simp) ?_
          refine AllReadyH.cons rfl (fun K hK => ?_) AllReadyH.nil
          go_simp
          refine hK.out _ _ trivial (fun hHeld => ?_)
          clear hK K
          try simp only [Act.put, List.setIfInBounds_toArray, List.set_cons_zero, List.set_cons_succ]
          refine wpAnyH_ready (rs := [9]) (by kernel_rfl) (by simp) ?_
          refine AllReadyH.cons rfl (fun K hK => ?_) AllReadyH.nil
          refine step_app_D rfl _ _ rfl (w.heap.size + 1) _ _ _ rfl (((HO3.out.kept hga (own_neR HO3.out (by omega))).kept hgb (own_neR (HO3.out.kept hga (own_neR HO3.out (by omega))) (by omega))).alloc _) s v _ _ rfl (heap_alloc_new wb _) (by omega) (by have := hga.size; have := hgb.size; simp; omega) ?_
          intro v' w4 ho hg4
          obtain ⟨A4, c4, rfl⟩ := own_form ho
          replace hg4 : wb.grownBy w4 (Value.slice A' ds.length c).ownBlock := (World.grownBy_alloc _ _ _).trans hg4
          have hdd := ((HD3.out.grown hga (by simpa using hGR)).grown hgb (by simpa using hGR)).grown hg4 (Ne.symm HNE.out)
          have t0 := hdd.c0
          have t1 := hdd.c1
          have t2 := hdd.f0
          have t3 := hdd.f1
          refine hK.out _ _ trivial (fun hHeld => ?_)
          clear hK K
          try simp only [Act.put, List.setIfInBounds_toArray]
          refine wpAnyH_take (i := 10) (v := ?_) rfl (by kernel_rfl) (by kernel_rfl) (by kernel_rfl) (fun _ _ _ h => h) (Or.inl ⟨by rfl, ?_⟩) hHeld ?_
          rotate_left
          · intro w5 hSw
            first
            | (go_simp; done)
            | (go_simp; with_reducible rfl)
          try simp only [Act.put]
          refine wpAnyH_ready (rs := [11]) (by kernel_rfl) (by simp) ?_
          refine AllReadyH.cons rfl (fun K hK => ?_) AllReadyH.nil
          go_simp
          refine hK.out _ _ trivial (fun hHeld => ?_)
          clear hK K
          try simp only [Act.put, List.setIfInBounds_toArray, List.set_cons_zero, List.set_cons_succ]
          refine wpAnyH_done (by kernel_rfl) ?_ _
          have HG4 := Lib.hid (grown_rowO (HG3.out.trans (hga.trans hgb)) hg4 (fun q hq => by have := (HO3.out.lt q hq).1; omega))
          have hr4 : Rdr w4 R B A cb zs (pa + 1) := hrb.grown hg4 (fun e => by have := (HO3.out.lt R e.symm).1; omega) (fun q hq => by have h1 := (HO3.out.lt q hq).1; have h2 := HR3.out.low; omega)
          have hcc := ((HC3.out.grown hga (by simpa using hwR)).grown hgb (by simpa using hwR)).grown hg4 (fun e => by have := (HO3.out.lt _ e.symm).1; omega)
          have HR4 := Lib.hid hr4
          rw [show flat ds ++ [Value.string s, Value.int .i64 v] = flat (ds ++ [⟨s, v⟩]) from by simp [flat, encD]] at ho
          have NE4 := Lib.hid (own_no_slice ho (by omega) t0)
          have HO4 := Lib.hid ho
          have e1 : Hid (ds.length + 1 = (ds ++ [(⟨s, v⟩ : D)]).length) := Lib.hid (by simp)
          clear c0 c1 f0 f1 d0 d1 e0 g1 HC3 HD3 HO3 HG3 HR3 hdd ho hr4 hg4
          obtain ⟨c0, c1, f0, f1⟩ := hcc
          go_wp2
          refine bodyPost_ret (v := .agg #[.slice A4 (ds.length + 1) c4, .int .i64 b]) (by simp [results, Try.results79, go_sem, c0, c1]) rfl ⟨A4, c4, ds ++ [⟨s, v⟩], b, pa + 1, by rw [e1.out], by simp; omega, small_app HSM.out (fun d hd => by simp at hd; subst hd; exact ⟨hsz, by show (-5000 : Int) ≤ v; omega, by show v ≤ 5000; omega⟩), ⟨by omega, by omega⟩, ?_, by omega, ?_, ?_⟩
          · rw [← e1.out]
            exact own_setCell (own_setCell (own_setCell (own_base HO4.out (by omega)) NE4.out _) (fun e => by have := (HO4.out.lt _ e).1; simp at this; omega) _) (fun e => by have := (HO4.out.lt _ e).1; simp at this; omega) _
          · exact grown_set (grown_set (grown_set HG4.out (by show w.heap.size ≤ G; omega) _) (Nat.le_refl _) _) (Nat.le_refl _) _
          · exact ((HR4.out.set (by show R < G; omega) _).set hRw _).set hRw _
        refine AllReadyH.cons rfl (fun K hK => ?_) AllReadyH.nil
        go_simp
        refine hK.out _ _ trivial (fun hHeld => ?_)
        clear hK K
        try simp only [Act.put, List.setIfInBounds_toArray, List.set_cons_zero, List.set_cons_succ]
        refine wpAnyH_ready (rs := [1]) (by kernel_rfl) (by simp) ?_
        refine AllReadyH.cons rfl (fun K hK => ?_) AllReadyH.nil
        have lA : (wb.alloc (.cells #[.string s, .int .i64 v] 48)).cell? ⟨G, 0, none⟩ = some (.slice A' ds.length c) := (World.cell?_alloc_some _ _ _ (by rw [y3]; rfl)).trans y3
        go_simp
        refine hK.out _ _ trivial (fun hHeld => ?_)
        clear hK K
        try simp only [Act.put, List.setIfInBounds_toArray, List.set_cons_zero, List.set_cons_succ]
        refine wpAnyH_ready (rs := [9]) (by kernel_rfl) (by simp) ?_
        refine AllReadyH.cons rfl (fun K hK => ?_) AllReadyH.nil
        refine step_app_D rfl _ _ rfl (w.heap.size + 1) _ _ _ rfl (((HO3.out.kept hga (own_neR HO3.out (by omega))).kept hgb (own_neR (HO3.out.kept hga (own_neR HO3.out (by omega))) (by omega))).alloc _) s v _ _ rfl (heap_alloc_new wb _) (by omega) (by have := hga.size; have := hgb.size; simp; omega) ?_
        intro v' w4 ho hg4
        obtain ⟨A4, c4, rfl⟩ := own_form ho
        replace hg4 : wb.grownBy w4 (Value.slice A' ds.length c).ownBlock := (World.grownBy_alloc _ _ _).trans hg4
        have hdd := ((HD3.out.grown hga (by simpa using hGR)).grown hgb (by simpa using hGR)).grown hg4 (Ne.symm HNE.out)
        have t0 := hdd.c0
        have t1 := hdd.c1
        have t2 := hdd.f0
        have t3 := hdd.f1
        refine hK.out _ _ trivial (fun hHeld => ?_)
        clear hK K
        try simp only [Act.put, List.setIfInBounds_toArray]
        refine wpAnyH_take (i := 10) (v := ?_) rfl (by kernel_rfl) (by kernel_rfl) (by kernel_rfl) (fun _ _ _ h => h) (Or.inl ⟨by rfl, ?_⟩) hHeld ?_
        rotate_left
        · intro w5 hSw
          first
          | (go_simp; done)
          | (go_simp; with_reducible rfl)
        try simp only [Act.put]
        refine wpAnyH_ready (rs := [11]) (by kernel_rfl) (by simp) ?_
        refine AllReadyH.cons rfl (fun K hK => ?_) AllReadyH.nil
        go_simp
        refine hK.out _ _ trivial (fun hHeld => ?_)
        clear hK K
        try simp only [Act.put, List.setIfInBounds_toArray, List.set_cons_zero, List.set_cons_succ]
        refine wpAnyH_done (by kernel_rfl) ?_ _
        have HG4 := Lib.hid (grown_rowO (HG3.out.trans (hga.trans hgb)) hg4 (fun q hq => by have := (HO3.out.lt q hq).1; omega))
        have hr4 : Rdr w4 R B A cb zs (pa + 1) := hrb.grown hg4 (fun e => by have := (HO3.out.lt R e.symm).1; omega) (fun q hq => by have h1 := (HO3.out.lt q hq).1; have h2 := HR3.out.low; omega)
        have hcc := ((HC3.out.grown hga (by simpa using hwR)).grown hgb (by simpa using hwR)).grown hg4 (fun e => by have := (HO3.out.lt _ e.symm).1; omega)
        have HR4 := Lib.hid hr4
        rw [show flat ds ++ [Value.string s, Value.int .i64 v] = flat (ds ++ [⟨s, v⟩]) from by simp [flat, encD]] at ho
        have NE4 := Lib.hid (own_no_slice ho (by omega) t0)
        have HO4 := Lib.hid ho
        have e1 : Hid (ds.length + 1 = (ds ++ [(⟨s, v⟩ : D)]).length) := Lib.hid (by simp)
        clear c0 c1 f0 f1 d0 d1 e0 g1 HC3 HD3 HO3 HG3 HR3 hdd ho hr4 hg4
        obtain ⟨c0, c1, f0, f1⟩ := hcc
        go_wp2
        refine bodyPost_ret (v := .agg #[.slice A4 (ds.length + 1) c4, .int .i64 b]) (by simp [results, Try.results79, go_sem, c0, c1]) rfl ⟨A4, c4, ds ++ [⟨s, v⟩], b, pa + 1, by rw [e1.out], by simp; omega, small_app HSM.out (fun d hd => by simp at hd; subst hd; exact ⟨hsz, by show (-5000 : Int) ≤ v; omega, by show v ≤ 5000; omega⟩), ⟨by omega, by omega⟩, ?_, by omega, ?_, ?_⟩
        · rw [← e1.out]
          exact own_setCell (own_setCell (own_setCell (own_base HO4.out (by omega)) NE4.out _) (fun e => by have := (HO4.out.lt _ e).1; simp at this; omega) _) (fun e => by have := (HO4.out.lt _ e).1; simp at this; omega) _
        · exact grown_set (grown_set (grown_set HG4.out (by show w.heap.size ≤ G; omega) _) (Nat.le_refl _) _) (Nat.le_refl _) _
        · exact ((HR4.out.set (by show R < G; omega) _).set hRw _).set hRw _
      refine AllReadyH.cons rfl (fun K hK => ?_) AllReadyH.nil
      go_simp
      refine hK.out _ _ trivial (fun hHeld => ?_)
      clear hK K
      try simp only [Act.put, List.setIfInBounds_toArray, List.set_cons_zero, List.set_cons_succ]
      refine wpAnyH_ready (rs := [1, 3]) (by kernel_rfl) (by simp) ?_
      refine AllReadyH.cons rfl (fun K hK => ?_) ?_
      · have lA : (w3.alloc (.cells #[.int .i64 (-1), .int .i64 4096, .int .i64 1] 3)).cell? ⟨G, 0, none⟩ = some (.slice A' ds.length c) := (World.cell?_alloc_some _ _ _ (by rw [d0]; rfl)).trans d0
        go_simp
        refine hK.out _ _ trivial (fun hHeld => ?_)
        clear hK K
        try simp only [Act.put, List.setIfInBounds_toArray, List.set_cons_zero, List.set_cons_succ]
        refine wpAnyH_ready (rs := [3]) (by kernel_rfl) (by simp) ?_
        refine AllReadyH.cons rfl (fun K hK => ?_) AllReadyH.nil
        go_simp
        go_at_call 59
        refine (anyName_any R B A cb zs (p' + 1) (w3.alloc (.cells #[.int .i64 (-1), .int .i64 4096, .int .i64 1] 3)).drew (HR3.out.below ((Below.refl _ _).alloc (Nat.le_refl _) _)).drew1 (by omega)).mono ?_
        rintro e wa ⟨s, pa, rfl, hsz, hpa, hga, hra⟩
        have hlit := litK (litI (W := w3) (t := 3) (cs := #[.int .i64 (-1), .int .i64 4096, .int .i64 1]) (n := 3) (lo := -1) (hi := 4096) rfl rfl (by simp [allI])) (grown_undrew0 hga) (by simp; omega)
        replace hga : w3.grownBy wa (some R) := grown_undrewA hga
        have x3 := hga.cell d0 (by simpa using hGR)
        refine hK.out _ _ trivial (fun hHeld => ?_)
        clear hK K
        try simp only [Act.put, List.setIfInBounds_toArray, List.set_cons_zero, List.set_cons_succ]
        refine wpAnyH_ready (rs := [6]) (by kernel_rfl) (by simp) ?_
        refine AllReadyH.cons rfl (fun K hK => ?_) AllReadyH.nil
        go_simp
        go_at_call 57
        refine (one_any (-1) 4096 R B A cb zs pa w3.heap.size 3 3 wa hra (by omega) (by omega) (by omega) (by omega) hlit).mono ?_
        rintro e wb ⟨v, rfl, v0, v1, hgb, hrb⟩
        have y3 := hgb.cell x3 (by simpa using hGR)
        refine hK.out _ _ trivial (fun hHeld => ?_)
        clear hK K
        try simp only [Act.put, List.setIfInBounds_toArray, List.set_cons_zero, List.set_cons_succ]
        refine wpAnyH_take (i := 7) (v := ?_) rfl (by kernel_rfl) (by kernel_rfl) (by kernel_rfl) (fun _ _ _ h => h) (Or.inl ⟨by rfl, ?_⟩) hHeld ?_
        rotate_left
        · intro w5 hSw
          first
          | (go_simp; done)
          | (go_simp; with_reducible rfl)
        try simp only [Act.put, List.setIfInBounds_toArray]
        refine wpAnyH_ready (rs := [8]) (by kernel_rfl) (by simp) ?_
        refine AllReadyH.cons rfl (fun K hK => ?_) AllReadyH.nil
        go_simp
        refine hK.out _ _ trivial (fun hHeld => ?_)
        clear hK K
        try simp only [Act.put, List.setIfInBounds_toArray, List.set_cons_zero, List.set_cons_succ]
        refine wpAnyH_ready (rs := [9]) (by kernel_rfl) (by simp) ?_
        refine AllReadyH.cons rfl (fun K hK => ?_) AllReadyH.nil
        refine step_app_D rfl _ _ rfl (w.heap.size + 1) _ _ _ rfl (((HO3.out.kept hga (own_neR HO3.out (by omega))).kept hgb (own_neR (HO3.out.kept hga (own_neR HO3.out (by omega))) (by omega))).alloc _) s v _ _ rfl (heap_alloc_new wb _) (by omega) (by have := hga.size; have := hgb.size; simp; omega) ?_
        intro v' w4 ho hg4
        obtain ⟨A4, c4, rfl⟩ := own_form ho
        replace hg4 : wb.grownBy w4 (Value.slice A' ds.length c).ownBlock := (World.grownBy_alloc _ _ _).trans hg4
        have hdd := ((HD3.out.grown hga (by simpa using hGR)).grown hgb (by simpa using hGR)).grown hg4 (Ne.symm HNE.out)
        have t0 := hdd.c0
        have t1 := hdd.c1
        have t2 := hdd.f0
        have t3 := hdd.f1
        refine hK.out _ _ trivial (fun hHeld => ?_)
        clear hK K
        try simp only [Act.put, List.setIfInBounds_toArray]
        refine wpAnyH_take (i := 10) (v := ?_) rfl (by kernel_rfl) (by kernel_rfl) (by kernel_rfl) (fun _ _ _ h => h) (Or.inl ⟨by rfl, ?_⟩) hHeld ?_
        rotate_left
        · intro w5 hSw
          first
          | (go_simp; done)
          | (go_simp; with_reducible rfl)
        try simp only [Act.put]
        refine wpAnyH_ready (rs := [11]) (by kernel_rfl) (by simp) ?_
        refine AllReadyH.cons rfl (fun K hK => ?_) AllReadyH.nil
        go_simp
        refine hK.out _ _ trivial (fun hHeld => ?_)
        clear hK K
        try simp only [Act.put, List.setIfInBounds_toArray, List.set_cons_zero, List.set_cons_succ]
        refine wpAnyH_done (by kernel_rfl) ?_ _
        have HG4 := Lib.hid (grown_rowO (HG3.out.trans (hga.trans hgb)) hg4 (fun q hq => by have := (HO3.out.lt q hq).1; omega))
        have hr4 : Rdr w4 R B A cb zs (pa + 1) := hrb.grown hg4 (fun e => by have := (HO3.out.lt R e.symm).1; omega) (fun q hq => by have h1 := (HO3.out.lt q hq).1; have h2 := HR3.out.low; omega)
        have hcc := ((HC3.out.grown hga (by simpa using hwR)).grown hgb (by simpa using hwR)).grown hg4 (fun e => by have := (HO3.out.lt _ e.symm).1; omega)
        have HR4 := Lib.hid hr4
        rw [show flat ds ++ [Value.string s, Value.int .i64 v] = flat (ds ++ [⟨s, v⟩]) from by simp [flat, encD]] at ho
        have NE4 := Lib.hid (own_no_slice ho (by omega) t0)
        have HO4 := Lib.hid ho
        have e1 : Hid (ds.length + 1 = (ds ++ [(⟨s, v⟩ : D)]).length) := Lib.hid (by simp)
        clear c0 c1 f0 f1 d0 d1 e0 g1 HC3 HD3 HO3 HG3 HR3 hdd ho hr4 hg4
        obtain ⟨c0, c1, f0, f1⟩ := hcc
        go_wp2
        refine bodyPost_ret (v := .agg #[.slice A4 (ds.length + 1) c4, .int .i64 b]) (by simp [results, Try.results79, go_sem, c0, c1]) rfl ⟨A4, c4, ds ++ [⟨s, v⟩], b, pa + 1, by rw [e1.out], by simp; omega, small_app HSM.out (fun d hd => by simp at hd; subst hd; exact ⟨hsz, by show (-5000 : Int) ≤ v; omega, by show v ≤ 5000; omega⟩), ⟨by omega, by omega⟩, ?_, by omega, ?_, ?_⟩
        · rw [← e1.out]
          exact own_setCell (own_setCell (own_setCell (own_base HO4.out (by omega)) NE4.out _) (fun e => by have := (HO4.out.lt _ e).1; simp at this; omega) _) (fun e => by have := (HO4.out.lt _ e).1; simp at this; omega) _
        · exact grown_set (grown_set (grown_set HG4.out (by show w.heap.size ≤ G; omega) _) (Nat.le_refl _) _) (Nat.le_refl _) _
        · exact ((HR4.out.set (by show R < G; omega) _).set hRw _).set hRw _
      refine AllReadyH.cons rfl (fun K hK => ?_) AllReadyH.nil
      go_simp
      go_at_call 59
      refine (anyName_any R B A cb zs (p' + 1) (w3.alloc (.cells #[.int .i64 (-1), .int .i64 4096, .int .i64 1] 3)).drew (HR3.out.below ((Below.refl _ _).alloc (Nat.le_refl _) _)).drew1 (by omega)).mono ?_
      rintro e wa ⟨s, pa, rfl, hsz, hpa, hga, hra⟩
      have hlit := litK (litI (W := w3) (t := 3) (cs := #[.int .i64 (-1), .int .i64 4096, .int .i64 1]) (n := 3) (lo := -1) (hi := 4096) rfl rfl (by simp [allI])) (grown_undrew0 hga) (by simp; omega)
      replace hga : w3.grownBy wa (some R) := grown_undrewA hga
      have x3 := hga.cell d0 (by simpa using hGR)
      refine hK.out _ _ trivial (fun hHeld => ?_)
      clear hK K
      try simp only [Act.put, List.setIfInBounds_toArray, List.set_cons_zero, List.set_cons_succ]
      refine wpAnyH_ready (rs := [1, 6]) (by kernel_rfl) (by simp) ?_
      refine AllReadyH.cons rfl (fun K hK => ?_) ?_
      · go_simp
        refine hK.out _ _ trivial (fun hHeld => ?_)
        clear hK K
        try simp only [Act.put, List.setIfInBounds_toArray, List.set_cons_zero, List.set_cons_succ]
        refine wpAnyH_ready (rs := [6]) (by kernel_rfl) (by simp) ?_
        refine AllReadyH.cons rfl (fun K hK => ?_) AllReadyH.nil
        go_simp
        go_at_call 57
        refine (one_any (-1) 4096 R B A cb zs pa w3.heap.size 3 3 wa hra (by omega) (by omega) (by omega) (by omega) hlit).mono ?_
        rintro e wb ⟨v, rfl, v0, v1, hgb, hrb⟩
        have y3 := hgb.cell x3 (by simpa using hGR)
        refine hK.out _ _ trivial (fun hHeld => ?_)
        clear hK K
        try simp only [Act.put, List.setIfInBounds_toArray, List.set_cons_zero, List.set_cons_succ]
        refine wpAnyH_take (i := 7) (v := ?_) rfl (by kernel_rfl) (by kernel_rfl) (by kernel_rfl) (fun _ _ _ h => h) (Or.inl ⟨by rfl, ?_⟩) hHeld ?_
        rotate_left
        · intro w5 hSw
          first
          | (go_simp; done)
          | (go_simp; with_reducible rfl)
        try simp only [Act.put, List.setIfInBounds_toArray]
        refine wpAnyH_ready (rs := [8]) (by kernel_rfl) (by simp) ?_
        refine AllReadyH.cons rfl (fun K hK => ?_) AllReadyH.nil
        go_simp
        refine hK.out _ _ trivial (fun hHeld => ?_)
        clear hK K
        try simp only [Act.put, List.setIfInBounds_toArray, List.set_cons_zero, List.set_cons_succ]
        refine wpAnyH_ready (rs := [9]) (by kernel_rfl) (by simp) ?_
        refine AllReadyH.cons rfl (fun K hK => ?_) AllReadyH.nil
        refine step_app_D rfl _ _ rfl (w.heap.size + 1) _ _ _ rfl (((HO3.out.kept hga (own_neR HO3.out (by omega))).kept hgb (own_neR (HO3.out.kept hga (own_neR HO3.out (by omega))) (by omega))).alloc _) s v _ _ rfl (heap_alloc_new wb _) (by omega) (by have := hga.size; have := hgb.size; simp; omega) ?_
        intro v' w4 ho hg4
        obtain ⟨A4, c4, rfl⟩ := own_form ho
        replace hg4 : wb.grownBy w4 (Value.slice A' ds.length c).ownBlock := (World.grownBy_alloc _ _ _).trans hg4
        have hdd := ((HD3.out.grown hga (by simpa using hGR)).grown hgb (by simpa using hGR)).grown hg4 (Ne.symm HNE.out)
        have t0 := hdd.c0
        have t1 := hdd.c1
        have t2 := hdd.f0
        have t3 := hdd.f1
        refine hK.out _ _ trivial (fun hHeld => ?_)
        clear hK K
        try simp only [Act.put, List.setIfInBounds_toArray]
        refine wpAnyH_take (i := 10) (v := ?_) rfl (by kernel_rfl) (by kernel_rfl) (by kernel_rfl) (fun _ _ _ h => h) (Or.inl ⟨by rfl, ?_⟩) hHeld ?_
        rotate_left
        · intro w5 hSw
          first
          | (go_simp; done)
          | (go_simp; with_reducible rfl)
        try simp only [Act.put]
        refine wpAnyH_ready (rs := [11]) (by kernel_rfl) (by simp) ?_
        refine AllReadyH.cons rfl (fun K hK => ?_) AllReadyH.nil
        go_simp
        refine hK.out _ _ trivial (fun hHeld => ?_)
        clear hK K
        try simp only [Act.put, List.setIfInBounds_toArray, List.set_cons_zero, List.set_cons_succ]
        refine wpAnyH_done (by kernel_rfl) ?_ _
        have HG4 := Lib.hid (grown_rowO (HG3.out.trans (hga.trans hgb)) hg4 (fun q hq => by have := (HO3.out.lt q hq).1; omega))
        have hr4 : Rdr w4 R B A cb zs (pa + 1) := hrb.grown hg4 (fun e => by have := (HO3.out.lt R e.symm).1; omega) (fun q hq => by have h1 := (HO3.out.lt q hq).1; have h2 := HR3.out.low; omega)
        have hcc := ((HC3.out.grown hga (by simpa using hwR)).grown hgb (by simpa using hwR)).grown hg4 (fun e => by have := (HO3.out.lt _ e.symm).1; omega)
        have HR4 := Lib.hid hr4
        rw [show flat ds ++ [Value.string s, Value.int .i64 v] = flat (ds ++ [⟨s, v⟩]) from by simp [flat, encD]] at ho
        have NE4 := Lib.hid (own_no_slice ho (by omega) t0)
        have HO4 := Lib.hid ho
        have e1 : Hid (ds.length + 1 = (ds ++ [(⟨s, v⟩ : D)]).length) := Lib.hid (by simp)
        clear c0 c1 f0 f1 d0 d1 e0 g1 HC3 HD3 HO3 HG3 HR3 hdd ho hr4 hg4
        obtain ⟨c0, c1, f0, f1⟩ := hcc
        go_wp2
        refine bodyPost_ret (v := .agg #[.slice A4 (ds.length + 1) c4, .int .i64 b]) (by simp [results, Try.results79, go_sem, c0, c1]) rfl ⟨A4, c4, ds ++ [⟨s, v⟩], b, pa + 1, by rw [e1.out], by simp; omega, small_app HSM.out (fun d hd => by simp at hd; subst hd; exact ⟨hsz, by show (-5000 : Int) ≤ v; omega, by show v ≤ 5000; omega⟩), ⟨by omega, by omega⟩, ?_, by omega, ?_, ?_⟩
        · rw [← e1.out]
          exact own_setCell (own_setCell (own_setCell (own_base HO4.out (by omega)) NE4.out _) (fun e => by have := (HO4.out.lt _ e).1; simp at this; omega) _) (fun e => by have := (HO4.out.lt _ e).1; simp at this; omega) _
        · exact grown_set (grown_set (grown_set HG4.out (by show w.heap.size ≤ G; omega) _) (Nat.le_refl _) _) (Nat.le_refl _) _
        · exact ((HR4.out.set (by show R < G; omega) _).set hRw _).set hRw _
      refine AllReadyH.cons rfl (fun K hK => ?_) AllReadyH.nil
      go_simp
      go_at_call 57
      refine (one_any (-1) 4096 R B A cb zs pa w3.heap.size 3 3 wa hra (by omega) (by omega) (by omega) (by omega) hlit).mono ?_
      rintro e wb ⟨v, rfl, v0, v1, hgb, hrb⟩
      have y3 := hgb.cell x3 (by simpa using hGR)
      refine hK.out _ _ trivial (fun hHeld => ?_)
      clear hK K
      try simp only [Act.put, List.setIfInBounds_toArray, List.set_cons_zero, List.set_cons_succ]
      refine wpAnyH_take (i := 7) (v := ?_) rfl (by kernel_rfl) (by kernel_rfl) (by kernel_rfl) (fun _ _ _ h => h) (Or.inl ⟨by rfl, ?_⟩) hHeld ?_
      rotate_left
      · intro w5 hSw
        first
        | (go_simp; done)
        | (go_simp; with_reducible rfl)
      try simp only [Act.put, List.setIfInBounds_toArray]
      refine wpAnyH_ready (rs := [1, 8]) (by kernel_rfl) (by simp) ?_
      refine AllReadyH.cons rfl (fun K hK => ?_) ?_
      · go_simp
        refine hK.out _ _ trivial (fun hHeld => ?_)
        clear hK K
        try simp only [Act.put, List.setIfInBounds_toArray, List.set_cons_zero, List.set_cons_succ]
        refine wpAnyH_ready (rs := [8]) (by kernel_rfl) (by simp) ?_
        refine AllReadyH.cons rfl (fun K hK => ?_) AllReadyH.nil
        go_simp
        refine hK.out _ _ trivial (fun hHeld => ?_)
        clear hK K
        try simp only [Act.put, List.setIfInBounds_toArray, List.set_cons_zero, List.set_cons_succ]
        refine wpAnyH_ready (rs := [9]) (by kernel_rfl) (by simp) ?_
        refine AllReadyH.cons rfl (fun K hK => ?_) AllReadyH.nil
        refine step_app_D rfl _ _ rfl (w.heap.size + 1) _ _ _ rfl (((HO3.out.kept hga (own_neR HO3.out (by omega))).kept hgb (own_neR (HO3.out.kept hga (own_neR HO3.out (by omega))) (by omega))).alloc _) s v _ _ rfl (heap_alloc_new wb _) (by omega) (by have := hga.size; have := hgb.size; simp; omega) ?_
        intro v' w4 ho hg4
        obtain ⟨A4, c4, rfl⟩ := own_form ho
        replace hg4 : wb.grownBy w4 (Value.slice A' ds.length c).ownBlock := (World.grownBy_alloc _ _ _).trans hg4
        have hdd := ((HD3.out.grown hga (by simpa using hGR)).grown hgb (by simpa using hGR)).grown hg4 (Ne.symm HNE.out)
        have t0 := hdd.c0
        have t1 := hdd.c1
        have t2 := hdd.f0
        have t3 := hdd.f1
        refine hK.out _ _ trivial (fun hHeld => ?_)
        clear hK K
        try simp only [Act.put, List.setIfInBounds_toArray]
        refine wpAnyH_take (i := 10) (v := ?_) rfl (by kernel_rfl) (by kernel_rfl) (by kernel_rfl) (fun _ _ _ h => h) (Or.inl ⟨by rfl, ?_⟩) hHeld ?_
        rotate_left
        · intro w5 hSw
          first
          | (go_simp; done)
          | (go_simp; with_reducible rfl)
        try simp only [Act.put]
        refine wpAnyH_ready (rs := [11]) (by kernel_rfl) (by simp) ?_
        refine AllReadyH.cons rfl (fun K hK => ?_) AllReadyH.nil
        go_simp
        refine hK.out _ _ trivial (fun hHeld => ?_)
        clear hK K
        try simp only [Act.put, List.setIfInBounds_toArray, List.set_cons_zero, List.set_cons_succ]
        refine wpAnyH_done (by kernel_rfl) ?_ _
        have HG4 := Lib.hid (grown_rowO (HG3.out.trans (hga.trans hgb)) hg4 (fun q hq => by have := (HO3.out.lt q hq).1; omega))
        have hr4 : Rdr w4 R B A cb zs (pa + 1) := hrb.grown hg4 (fun e => by have := (HO3.out.lt R e.symm).1; omega) (fun q hq => by have h1 := (HO3.out.lt q hq).1; have h2 := HR3.out.low; omega)
        have hcc := ((HC3.out.grown hga (by simpa using hwR)).grown hgb (by simpa using hwR)).grown hg4 (fun e => by have := (HO3.out.lt _ e.symm).1; omega)
        have HR4 := Lib.hid hr4
        rw [show flat ds ++ [Value.string s, Value.int .i64 v] = flat (ds ++ [⟨s, v⟩]) from by simp [flat, encD]] at ho
        have NE4 := Lib.hid (own_no_slice ho (by omega) t0)
        have HO4 := Lib.hid ho
        have e1 : Hid (ds.length + 1 = (ds ++ [(⟨s, v⟩ : D)]).length) := Lib.hid (by simp)
        clear c0 c1 f0 f1 d0 d1 e0 g1 HC3 HD3 HO3 HG3 HR3 hdd ho hr4 hg4
        obtain ⟨c0, c1, f0, f1⟩ := hcc
        go_wp2
        refine bodyPost_ret (v := .agg #[.slice A4 (ds.length + 1) c4, .int .i64 b]) (by simp [results, Try.results79, go_sem, c0, c1]) rfl ⟨A4, c4, ds ++ [⟨s, v⟩], b, pa + 1, by rw [e1.out], by simp; omega, small_app HSM.out (fun d hd => by simp at hd; subst hd; exact ⟨hsz, by show (-5000 : Int) ≤ v; omega, by show v ≤ 5000; omega⟩), ⟨by omega, by omega⟩, ?_, by omega, ?_, ?_⟩
        · rw [← e1.out]
          exact own_setCell (own_setCell (own_setCell (own_base HO4.out (by omega)) NE4.out _) (fun e => by have := (HO4.out.lt _ e).1; simp at this; omega) _) (fun e => by have := (HO4.out.lt _ e).1; simp at this; omega) _
        · exact grown_set (grown_set (grown_set HG4.out (by show w.heap.size ≤ G; omega) _) (Nat.le_refl _) _) (Nat.le_refl _) _
        · exact ((HR4.out.set (by show R < G; omega) _).set hRw _).set hRw _
      refine AllReadyH.cons rfl (fun K hK => ?_) AllReadyH.nil
      go_simp
      refine hK.out _ _ trivial (fun hHeld => ?_)
      clear hK K
      try simp only [Act.put, List.setIfInBounds_toArray, List.set_cons_zero, List.set_cons_succ]
      refine wpAnyH_ready (rs := [1]) (by kernel_rfl) (by simp) ?_
      refine AllReadyH.cons rfl (fun K hK => ?_) AllReadyH.nil
      have lA : (wb.alloc (.cells #[.string s, .int .i64 v] 48)).cell? ⟨G, 0, none⟩ = some (.slice A' ds.length c) := (World.cell?_alloc_some _ _ _ (by rw [y3]; rfl)).trans y3
      go_simp
      refine hK.out _ _ trivial (fun hHeld => ?_)
      clear hK K
      try simp only [Act.put, List.setIfInBounds_toArray, List.set_cons_zero, List.set_cons_succ]
      refine wpAnyH_ready (rs := [9]) (by kernel_rfl) (by simp) ?_
      refine AllReadyH.cons rfl (fun K hK => ?_) AllReadyH.nil
      refine step_app_D rfl _ _ rfl (w.heap.size + 1) _ _ _ rfl (((HO3.out.kept hga (own_neR HO3.out (by omega))).kept hgb (own_neR (HO3.out.kept hga (own_neR HO3.out (by omega))) (by omega))).alloc _) s v _ _ rfl (heap_alloc_new wb _) (by omega) (by have := hga.size; have := hgb.size; simp; omega) ?_
      intro v' w4 ho hg4
      obtain ⟨A4, c4, rfl⟩ := own_form ho
      replace hg4 : wb.grownBy w4 (Value.slice A' ds.length c).ownBlock := (World.grownBy_alloc _ _ _).trans hg4
      have hdd := ((HD3.out.grown hga (by simpa using hGR)).grown hgb (by simpa using hGR)).grown hg4 (Ne.symm HNE.out)
      have t0 := hdd.c0
      have t1 := hdd.c1
      have t2 := hdd.f0
      have t3 := hdd.f1
      refine hK.out _ _ trivial (fun hHeld => ?_)
      clear hK K
      try simp only [Act.put, List.setIfInBounds_toArray]
      refine wpAnyH_take (i := 10) (v := ?_) rfl (by kernel_rfl) (by kernel_rfl) (by kernel_rfl) (fun _ _ _ h => h) (Or.inl ⟨by rfl, ?_⟩) hHeld ?_
      rotate_left
      · intro w5 hSw
        first
        | (go_simp; done)
        | (go_simp; with_reducible rfl)
      try simp only [Act.put]
      refine wpAnyH_ready (rs := [11]) (by kernel_rfl) (by simp) ?_
      refine AllReadyH.cons rfl (fun K hK => ?_) AllReadyH.nil
      go_simp
      refine hK.out _ _ trivial (fun hHeld => ?_)
      clear hK K
      try simp only [Act.put, List.setIfInBounds_toArray, List.set_cons_zero, List.set_cons_succ]
      refine wpAnyH_done (by kernel_rfl) ?_ _
      have HG4 := Lib.hid (grown_rowO (HG3.out.trans (hga.trans hgb)) hg4 (fun q hq => by have := (HO3.out.lt q hq).1; omega))
      have hr4 : Rdr w4 R B A cb zs (pa + 1) := hrb.grown hg4 (fun e => by have := (HO3.out.lt R e.symm).1; omega) (fun q hq => by have h1 := (HO3.out.lt q hq).1; have h2 := HR3.out.low; omega)
      have hcc := ((HC3.out.grown hga (by simpa using hwR)).grown hgb (by simpa using hwR)).grown hg4 (fun e => by have := (HO3.out.lt _ e.symm).1; omega)
      have HR4 := Lib.hid hr4
      rw [show flat ds ++ [Value.string s, Value.int .i64 v] = flat (ds ++ [⟨s, v⟩]) from by simp [flat, encD]] at ho
      have NE4 := Lib.hid (own_no_slice ho (by omega) t0)
      have HO4 := Lib.hid ho
      have e1 : Hid (ds.length + 1 = (ds ++ [(⟨s, v⟩ : D)]).length) := Lib.hid (by simp)
      clear c0 c1 f0 f1 d0 d1 e0 g1 HC3 HD3 HO3 HG3 HR3 hdd ho hr4 hg4
      obtain ⟨c0, c1, f0, f1⟩ := hcc
      go_wp2
      refine bodyPost_ret (v := .agg #[.slice A4 (ds.length + 1) c4, .int .i64 b]) (by simp [results, Try.results79, go_sem, c0, c1]) rfl ⟨A4, c4, ds ++ [⟨s, v⟩], b, pa + 1, by rw [e1.out], by simp; omega, small_app HSM.out (fun d hd => by simp at hd; subst hd; exact ⟨hsz, by show (-5000 : Int) ≤ v; omega, by show v ≤ 5000; omega⟩), ⟨by omega, by omega⟩, ?_, by omega, ?_, ?_⟩
      · rw [← e1.out]
        exact own_setCell (own_setCell (own_setCell (own_base HO4.out (by omega)) NE4.out _) (fun e => by have := (HO4.out.lt _ e).1; simp at this; omega) _) (fun e => by have := (HO4.out.lt _ e).1; simp at this; omega) _
      · exact grown_set (grown_set (grown_set HG4.out (by show w.heap.size ≤ G; omega) _) (Nat.le_refl _) _) (Nat.le_refl _) _
      · exact ((HR4.out.set (by show R < G; omega) _).set hRw _).set hRw _
    · have z0 : (r == 0) = false := beq_eq_false_iff_ne.2 q0
      have z1 : (r == 1) = false := beq_eq_false_iff_ne.2 q3
      clear q0 q3
      go_wp2
      refine bodyPost_ret (v := .agg #[.slice A' ds.length c, .int .i64 b]) (by simp [results, Try.results79, go_sem, c0, c1]) rfl ⟨A', c, ds, b, p' + 1, rfl, by omega, HSM.out, ⟨by omega, by omega⟩, ?_, by omega, ?_, ?_⟩
      · exact own_setCell (own_setCell (own_base HO3.out (by omega)) (fun e => by have := (HO3.out.lt _ e).1; simp at this; omega) _) (fun e => by have := (HO3.out.lt _ e).1; simp at this; omega) _
      · exact grown_set (grown_set HG3.out (Nat.le_refl _) _) (Nat.le_refl _) _
      · exact (HR3.out.set hRw _).set hRw _
end Go.Proofs.Ytpmanbmhbfnefaa
