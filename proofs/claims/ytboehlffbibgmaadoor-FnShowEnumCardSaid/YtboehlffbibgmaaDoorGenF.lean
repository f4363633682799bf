import Derived.Test.YtboehlffbibgmaaDoorBaseG
import Derived.Test.YtboehlffbibgmaaDoorCel
import Derived.Deep.RegionHeld3
import Derived.Deep.RegionLawGrows
namespace Go.Proofs.YtboehlffbibgmaaDoor
open Go.RowKit
set_option linter.unusedVariables false
set_option maxRecDepth 100000

/-! ### drawn classes of flags -/
set_option maxHeartbeats 4000000 in
theorem goodDefs_flag (R B : Nat) (A : Option Addr) (cb : Nat) (zs : List Int) (p : Nat) (w : World) (h : Rdr w R B A cb zs p) (hp : p + 100 ≤ 100000) :
    Calls Tryd.prog 111 #[.pointer (some ⟨R, 0, none⟩), .int .i64 4095] w (GoodP R B A cb zs p w) := by
  have HR := Lib.hid h
  have HL := Lib.hid h.lt
  clear h
  go_enter Tryd.func111, Tryd.ntmps111
  have b1 : Below w.heap.size w (w.alloc (.cells #[] 83)) := (Below.refl _ _).alloc (Nat.le_refl _) _
  have HO1 : Hid ((w.alloc (.cells #[] 83)).ownsRow w.heap.size 83 2 (.slice (some ⟨w.heap.size, 0, none⟩) 0 0) 0 (flat [])) := Lib.hid (World.ownsRow_made w #[] 0 (Nat.le_refl _) (by unfold maxLen; omega) rfl)
  go_wp2_with fail
  refine (one_any 0 12 R B A cb zs p (w.heap.size + 1) 8 8 _ ((HR.out.below b1).below ((Below.refl _ _).alloc (by simp) _)) (by omega) (by have := HL.out; omega) (by omega) (by omega) (litI (by simp) rfl (by simp [allI]))).mono ?_
  rintro e w1 ⟨v, rfl, h0, h1, hgr, hr⟩
  obtain ⟨k, rfl⟩ := Int.eq_ofNat_of_zero_le h0
  have hg1 : (w.alloc (.cells #[] 83)).grownBy w1 (some R) := (World.grownBy_alloc _ _ _).trans hgr
  have HO2 := Lib.hid (HO1.out.kept hg1 (.inr (by simp [Value.ownBlock]; have := HL.out; omega)))
  have HG1 : Hid (w.grownBy w1 (some R)) := Lib.hid ((World.grownBy_alloc _ _ _).trans hg1)
  have HR1 := Lib.hid hr
  clear hr hgr hg1 b1 HO1
  go_wp2
  go_loopw [5, 6] (fun vv i wr => ∃ (ds : List D) (m p' : Nat), i = .int .i64 m ∧ ds.length + m ≤ 12 ∧ p' + 6 * m ≤ p + 1 + 6 * 12 ∧ Hid (∀ d ∈ ds, d.small) ∧ Hid (wr.ownsRow w.heap.size 83 2 vv ds.length (flat ds)) ∧ Hid (w.grownBy wr (some R)) ∧ Hid (Rdr wr R B A cb zs p')) (fun _ i _ => (intOf i).toNat)
  case atStart => exact ⟨[], k, p + 1, rfl, by simp; omega, by omega, Lib.hid (by simp), HO2, HG1, HR1⟩
  case round =>
    obtain ⟨ds, m, p', rfl, hm, hp', hsm, hown, hgr, hrd⟩ := hrel
    obtain ⟨A', c', hvv⟩ := own_form hown.out
    subst hvv
    by_cases hm0 : m = 0
    · subst hm0
      go_wp2
      go_ret
      exact ⟨A', c', ds, p', rfl, by omega, hsm.out, hown.out, by omega, hgr.out, hrd.out⟩
    · obtain ⟨m, rfl⟩ : ∃ q, m = q + 1 := ⟨m - 1, by omega⟩
      clear hm0
      have HS1 : Hid (1 ≤ w.heap.size) := Lib.hid (by have := HL.out; omega)
      go_wp2_with fail
      refine (aName_any R B A cb zs p' _ hrd.out (by omega)).mono ?_
      rintro e w2 ⟨s, rfl, hs, hg2, hr2⟩
      have HR2 := Lib.hid hr2
      have HG2 : Hid (w.grownBy w2 (some R)) := Lib.hid (hgr.out.trans hg2)
      have HO2 := Lib.hid (hown.out.kept hg2 (own_neR hown.out HL.out))
      clear hr2 hg2
      go_wp2_with fail
      refine (pick_any 12 R B A cb zs (p' + 1) _ HR2.out (by omega) (by omega) (by omega)).mono ?_
      rintro e w3 ⟨r, rfl, r0, r1, hg3, hr3⟩
      have r2 := r1 (by omega)
      have HR3 := Lib.hid hr3
      have HG3 : Hid (w.grownBy w3 (some R)) := Lib.hid (HG2.out.trans hg3)
      have HO3 := Lib.hid (HO2.out.kept hg3 (own_neR HO2.out HL.out))
      clear hr3 hg3 r1 HR2 HG2 HO2
      go_wp2_with fail
      refine (one_any (-1) 1000 R B A cb zs (p' + 1 + 1) w3.heap.size 12 12 _ (HR3.out.below ((Below.refl _ _).alloc (Nat.le_refl _) _)) (by omega) (by have := HR3.out.lt; omega) (by omega) (by omega) (litI rfl rfl (by simp [allI]; omega))).mono ?_
      rintro e w4 ⟨v, rfl, v0, v1, hg4, hr4⟩
      have HR4 := Lib.hid hr4
      have HG4 : Hid (w.grownBy w4 (some R)) := Lib.hid (HG3.out.trans ((World.grownBy_alloc _ _ _).trans hg4))
      have HO4 := Lib.hid (HO3.out.kept ((World.grownBy_alloc _ _ _).trans hg4) (own_neR HO3.out HL.out))
      have hsz4 : w.heap.size ≤ w4.heap.size := HG4.out.size
      have HNE : Hid ((Value.slice A' ds.length c').ownBlock ≠ some w4.heap.size) := Lib.hid (fun e => by have := (HO4.out.lt _ e).2; omega)
      clear hr4 hg4 HR3 HG3 HO3 r0 r2
      obtain ⟨w5, hw5⟩ : ∃ w5 : World, w5 = w4.alloc (.cells #[.string s, .int .i64 v] 83) := ⟨_, rfl⟩
      have hb5 : Below w4.heap.size w4 w5 := by rw [hw5]; exact (Below.refl _ _).alloc (Nat.le_refl _) _
      have HC5 : Hid (C2 w5 w4.heap.size (.string s) (.int .i64 v)) := Lib.hid (by rw [hw5]; exact c2New _ _ _ _)
      have HR5 := Lib.hid (HR4.out.below hb5)
      have HG5 : Hid (w.grownBy w5 (some R)) := Lib.hid (HG4.out.trans (grown_of_below hb5 _))
      have HO5 := Lib.hid (own_below HO4.out hb5)
      have HW5 := Lib.hid hw5.symm
      have hgR : w4.heap.size ≠ R := by have := HR4.out.lt; omega
      clear hb5 hw5 HR4 HG4 HO4
      go_wp2_with fail
      rw [HW5.out]
      refine (pick_any 64 R B A cb zs (p' + 1 + 1 + 1) _ HR5.out (by omega) (by omega) (by omega)).mono ?_
      rintro e w6 ⟨r, rfl, r0, r1, hg, hr⟩
      have r2 := r1 (by omega)
      have HR6 := Lib.hid hr
      have HG6 : Hid (w.grownBy w6 (some R)) := Lib.hid (HG5.out.trans hg)
      have HO6 := Lib.hid (HO5.out.kept hg (own_neR HO5.out HL.out))
      have HC6 := Lib.hid (HC5.out.grown hg (by simpa using hgR))
      clear hg hr r1 HR5 HG5 HO5 HC5 HW5
      go_wp2_with fail
      refine (one_any 0 2048 R B A cb zs (p' + 1 + 1 + 1 + 1) w6.heap.size 15 15 _ (HR6.out.below ((Below.refl _ _).alloc (Nat.le_refl _) _)) (by omega) (by have := HR6.out.lt; omega) (by omega) (by omega) (litI rfl rfl (by simp [allI]; omega))).mono ?_
      rintro e w7 ⟨u, rfl, u0, u1, hg, hr⟩
      have hgg := (World.grownBy_alloc w6 (.cells #[.int .i64 1, .int .i64 2, .int .i64 4, .int .i64 8, .int .i64 3, .int .i64 16, .int .i64 0, .int .i64 6, .int .i64 7, .int .i64 r, .int .i64 2048, .int .i64 5, .int .i64 1, .int .i64 2, .int .i64 4] 3) (some R)).trans hg
      have HR7 := Lib.hid hr
      have HG7 : Hid (w.grownBy w7 (some R)) := Lib.hid (HG6.out.trans hgg)
      have HO7 := Lib.hid (HO6.out.kept hgg (own_neR HO6.out HL.out))
      have HC7 := Lib.hid (HC6.out.grown hgg (by simpa using hgR))
      clear hg hr hgg HR6 HG6 HO6 HC6 r0 r2
      generalize w4.heap.size = G at *
      obtain ⟨c0, c1, f0, f1⟩ := HC7.out
      go_wp2_with fail
      obtain ⟨w8, hw8⟩ : ∃ w8 : World, w8 = w7.setCell ⟨G, 1, none⟩ (.int .i64 u) := ⟨_, rfl⟩
      have HC8 : Hid (C2 w8 G (.string s) (.int .i64 u)) := Lib.hid (by rw [hw8]; exact HC7.out.set1 _)
      have HR8 : Hid (Rdr w8 R B A cb zs (p' + 1 + 1 + 1 + 1 + 1)) := Lib.hid (by rw [hw8]; exact HR7.out.set (by show R < G; have := HL.out; omega) _)
      have HG8 : Hid (w.grownBy w8 (some R)) := Lib.hid (by rw [hw8]; exact grown_set HG7.out (by show w.heap.size ≤ G; omega) _)
      have HO8 : Hid (w8.ownsRow w.heap.size 83 2 (.slice A' ds.length c') ds.length (flat ds)) := Lib.hid (by rw [hw8]; exact own_setCell HO7.out HNE.out _)
      rw [← hw8]
      clear hw8 c0 c1 f0 f1 HR7 HG7 HO7 HC7
      obtain ⟨c0, c1, f0, f1⟩ := HC8.out
      have HS8 : Hid (SD w8 w8.heap.size A' ds.length c' ds) := Lib.hid (sd_of_own HO8.out (fun d hd => small_ok (hsm.out d hd)))
      cases hx : decide (fidx (isNm s) ds < 0)
      · have hx1 : ¬ fidx (isNm s) ds < 0 := of_decide_eq_false hx
        generalize hg : fidx (isNm s) ds = q at hx1
        have HG := Lib.hid hg
        clear hx hg
        refine (indexOf_v ds s _ _ _ _ HS8.out HG.out).mono ?_
        rintro e wx ⟨rfl, hwx⟩
        subst hwx
        go_wp2
        go_roundw
        case rel => exact ⟨ds, m, p' + 1 + 1 + 1 + 1 + 1, by go_num, by omega, by omega, hsm, HO8, HG8, HR8⟩
        case measure => simp [intOf]
      · have hx1 : fidx (isNm s) ds < 0 := of_decide_eq_true hx
        generalize hg : fidx (isNm s) ds = q at hx1
        have HG := Lib.hid hg
        clear hx hg
        refine (indexOf_v ds s _ _ _ _ HS8.out HG.out).mono ?_
        rintro e wx ⟨rfl, hwx⟩
        subst hwx
        go_wp2_with (at_builtin; refine wpList_app_D rfl _ _ rfl w.heap.size _ _ _ rfl HO8.out _ _ _ _ rfl (by first | rfl | simp) (by omega) (by have := HG8.out.size; omega) ?_; intro v' w9 ho6 hb6; have HO9 := Lib.hid ho6; have HB9 := Lib.hid hb6; clear ho6 hb6)
        all_goals
          go_roundw
          case rel => exact ⟨ds ++ [⟨s, u⟩], m, p' + 1 + 1 + 1 + 1 + 1, by go_num, by simp; omega, by omega, Lib.hid (by intro d hd; rcases List.mem_append.1 hd with hd | hd; exact hsm.out d hd; simp at hd; subst hd; exact ⟨hs, by show (-5000 : Int) ≤ u; omega, by show u ≤ 5000; omega⟩), Lib.hid (by simpa [flat, encD] using HO9.out), Lib.hid (grown_below HG8.out HB9.out), Lib.hid (HR8.out.belowL HB9.out HL.out)⟩
          case measure => simp [intOf]

/-- A drawn class of flags. -/
def GenFP (m q R B : Nat) (A : Option Addr) (cb : Nat) (zs : List Int) (p : Nat) (w : World) (e : Ending) (w' : World) : Prop :=
  ∃ (A' : Option Addr) (c : Nat) (ds : List D) (b : Int) (p' : Nat), e = .returned (.agg #[.slice A' ds.length c, .int .i64 b]) ∧ ds.length ≤ m ∧ (∀ d ∈ ds, d.small) ∧ (-1 ≤ b ∧ b ≤ 4) ∧
    w'.ownsRow w.heap.size 83 2 (.slice A' ds.length c) ds.length (flat ds) ∧ p' ≤ p + q ∧ w.grownBy w' (some R) ∧ Rdr w' R B A cb zs p'

theorem grown_undrew1 {w w' : World} {row : Option Nat} (h : (w.drewN 1).grownBy w' row) : w.grownBy w' row := ⟨h.os, h.tape, h.output, h.size, h.block⟩
theorem grown_undrew0 {w w' : World} {row : Option Nat} (h : w.drew.grownBy w' row) : w.grownBy w' row := ⟨h.os, h.tape, h.output, h.size, h.block⟩
theorem grown_undrewA {w w' : World} {o : Obj} {row : Option Nat} (h : (w.alloc o).drew.grownBy w' row) : w.grownBy w' row := (World.grownBy_alloc w o row).trans (grown_undrew0 h)
/-- Numbers of a list that was made a little earlier. -/
theorem litK {W W' : World} {row : Option Nat} {g n : Nat} {lo hi : Int} (h : ∀ i, i < n → ∃ v : Int, W.cell? ⟨g, i, none⟩ = some (.int .i64 v) ∧ lo ≤ v ∧ v ≤ hi) (hg : W.grownBy W' row) (hne : some g ≠ row) :
    ∀ i, i < n → ∃ v : Int, W'.cell? ⟨g, i, none⟩ = some (.int .i64 v) ∧ lo ≤ v ∧ v ≤ hi := fun i hi => by
  obtain ⟨v, h1, h2⟩ := h i hi
  exact ⟨v, hg.cell h1 hne, h2⟩
theorem Rdr.drew1 {w : World} {R B : Nat} {A : Option Addr} {cb : Nat} {zs : List Int} {p : Nat} (h : Rdr w R B A cb zs p) : Rdr w.drew R B A cb zs p := ⟨h.blk, Rd.drew h.rd, h.few, h.byt, h.low, h.pmax⟩
theorem grown_rowO {w W w' : World} {row r2 : Option Nat} (h : w.grownBy W row) (hg : W.grownBy w' r2) (hw : ∀ g, r2 = some g → w.heap.size ≤ g) : w.grownBy w' row :=
  ⟨hg.os.trans h.os, hg.tape.trans h.tape, hg.output.trans h.output, Nat.le_trans h.size hg.size, fun k hk hr => (hg.block k (Nat.lt_of_lt_of_le hk h.size) (fun e => by have := hw k e.symm; omega)).trans (h.block k hk hr)⟩

end Go.Proofs.YtboehlffbibgmaaDoor
