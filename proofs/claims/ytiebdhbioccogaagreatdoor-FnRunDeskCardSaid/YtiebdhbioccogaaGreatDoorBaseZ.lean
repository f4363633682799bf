import Derived.Test.YtiebdhbioccogaaGreatDoorBaseG
import Derived.Test.YtiebdhbioccogaaGreatDoorCel
import Derived.Deep.RegionHeld3
import Derived.Deep.RegionLawGrows
import Derived.Test.YtiebdhbioccogaaGreatDoorBaseD
import Derived.Test.YtiebdhbioccogaaGreatDoorBaseE
import Derived.Test.YtiebdhbioccogaaGreatDoorZapT
import Derived.Test.YtiebdhbioccogaaGreatDoorAppW
namespace Go.Proofs.YtiebdhbioccogaaGreatDoor
open Go.RowKit
set_option linter.unusedVariables false
set_option maxRecDepth 100000

/-! ### drawn classes of flags -/
set_option maxHeartbeats 4000000 in
theorem goodDefs_flag (R B : Nat) (A : Option Addr) (cb : Nat) (zs : List Int) (p : Nat) (w : World) (h : Rdr w R B A cb zs p) (hp : p + 100 ≤ 100000) :
    Calls Tryz.prog 103 #[.pointer (some ⟨R, 0, none⟩), .int .i64 4095] w (GoodP R B A cb zs p w) := by
  have HR := Lib.hid h
  have HL := Lib.hid h.lt
  clear h
  go_enter Tryz.func103, Tryz.ntmps103
  have b1 : Below w.heap.size w (w.alloc (.cells #[] 108)) := (Below.refl _ _).alloc (Nat.le_refl _) _
  have HO1 : Hid ((w.alloc (.cells #[] 108)).ownsRow w.heap.size 108 2 (.slice (some ⟨w.heap.size, 0, none⟩) 0 0) 0 (flat [])) := Lib.hid (World.ownsRow_made w #[] 0 (Nat.le_refl _) (by unfold maxLen; omega) rfl)
  go_wp2_with fail
  refine (one_any 0 12 R B A cb zs p (w.heap.size + 1) 8 8 _ ((HR.out.below b1).below ((Below.refl _ _).alloc (by simp) _)) (by omega) (by have := HL.out; omega) (by omega) (by omega) (litI (by simp) rfl (by simp [allI]))).mono ?_
  rintro e w1 ⟨v, rfl, h0, h1, hgr, hr⟩
  obtain ⟨k, rfl⟩ := Int.eq_ofNat_of_zero_le h0
  have hg1 : (w.alloc (.cells #[] 108)).grownBy w1 (some R) := (World.grownBy_alloc _ _ _).trans hgr
  have HO2 := Lib.hid (HO1.out.kept hg1 (.inr (by simp [Value.ownBlock]; have := HL.out; omega)))
  have HG1 : Hid (w.grownBy w1 (some R)) := Lib.hid ((World.grownBy_alloc _ _ _).trans hg1)
  have HR1 := Lib.hid hr
  clear hr hgr hg1 b1 HO1
  go_wp2
  go_loopw [5, 6] (fun vv i wr => ∃ (ds : List D) (m p' : Nat), i = .int .i64 m ∧ ds.length + m ≤ 12 ∧ p' + 6 * m ≤ p + 1 + 6 * 12 ∧ Hid (∀ d ∈ ds, d.small) ∧ Hid (wr.ownsRow w.heap.size 108 2 vv ds.length (flat ds)) ∧ Hid (w.grownBy wr (some R)) ∧ Hid (Rdr wr R B A cb zs p')) (fun _ i _ => (intOf i).toNat)
  case atStart => exact ⟨[], k, p + 1, rfl, by simp; omega, by omega, Lib.hid (by simp), HO2, HG1, HR1⟩
  case round =>
    obtain ⟨ds, m, p', rfl, hm, hp', hsm, hown, hgr, hrd⟩ := hrel
    obtain ⟨A', c', hvv⟩ := own_form hown.out
    subst hvv
    by_cases hm0 : m = 0
    · subst hm0
      go_wp2
      go_ret
      exact ⟨A', c', ds, p', rfl, by omega, hsm.out, hown.out, by omega, hgr.out, hrd.out⟩
    · obtain ⟨m, rfl⟩ : ∃ q, m = q + 1 := ⟨m - 1, by omega⟩
      clear hm0
      have HS1 : Hid (1 ≤ w.heap.size) := Lib.hid (by have := HL.out; omega)
      go_wp2_with fail
      refine (aName_any R B A cb zs p' _ hrd.out (by omega)).mono ?_
      rintro e w2 ⟨s, rfl, hs, hg2, hr2⟩
      have HR2 := Lib.hid hr2
      have HG2 : Hid (w.grownBy w2 (some R)) := Lib.hid (hgr.out.trans hg2)
      have HO2 := Lib.hid (hown.out.kept hg2 (own_neR hown.out HL.out))
      clear hr2 hg2
      go_wp2_with fail
      refine (pick_any 12 R B A cb zs (p' + 1) _ HR2.out (by omega) (by omega) (by omega)).mono ?_
      rintro e w3 ⟨r, rfl, r0, r1, hg3, hr3⟩
      have r2 := r1 (by omega)
      have HR3 := Lib.hid hr3
      have HG3 : Hid (w.grownBy w3 (some R)) := Lib.hid (HG2.out.trans hg3)
      have HO3 := Lib.hid (HO2.out.kept hg3 (own_neR HO2.out HL.out))
      clear hr3 hg3 r1 HR2 HG2 HO2
      go_wp2_with fail
      refine (one_any (-1) 1000 R B A cb zs (p' + 1 + 1) w3.heap.size 12 12 _ (HR3.out.below ((Below.refl _ _).alloc (Nat.le_refl _) _)) (by omega) (by have := HR3.out.lt; omega) (by omega) (by omega) (litI rfl rfl (by simp [allI]; omega))).mono ?_
      rintro e w4 ⟨v, rfl, v0, v1, hg4, hr4⟩
      have HR4 := Lib.hid hr4
      have HG4 : Hid (w.grownBy w4 (some R)) := Lib.hid (HG3.out.trans ((World.grownBy_alloc _ _ _).trans hg4))
      have HO4 := Lib.hid (HO3.out.kept ((World.grownBy_alloc _ _ _).trans hg4) (own_neR HO3.out HL.out))
      have hsz4 : w.heap.size ≤ w4.heap.size := HG4.out.size
      have HNE : Hid ((Value.slice A' ds.length c').ownBlock ≠ some w4.heap.size) := Lib.hid (fun e => by have := (HO4.out.lt _ e).2; omega)
      clear hr4 hg4 HR3 HG3 HO3 r0 r2
      obtain ⟨w5, hw5⟩ : ∃ w5 : World, w5 = w4.alloc (.cells #[.string s, .int .i64 v] 108) := ⟨_, rfl⟩
      have hb5 : Below w4.heap.size w4 w5 := by rw [hw5]; exact (Below.refl _ _).alloc (Nat.le_refl _) _
      have HC5 : Hid (C2 w5 w4.heap.size (.string s) (.int .i64 v)) := Lib.hid (by rw [hw5]; exact c2New _ _ _ _)
      have HR5 := Lib.hid (HR4.out.below hb5)
      have HG5 : Hid (w.grownBy w5 (some R)) := Lib.hid (HG4.out.trans (grown_of_below hb5 _))
      have HO5 := Lib.hid (own_below HO4.out hb5)
      have HW5 := Lib.hid hw5.symm
      have hgR : w4.heap.size ≠ R := by have := HR4.out.lt; omega
      clear hb5 hw5 HR4 HG4 HO4
      go_wp2_with fail
      rw [HW5.out]
      refine (pick_any 64 R B A cb zs (p' + 1 + 1 + 1) _ HR5.out (by omega) (by omega) (by omega)).mono ?_
      rintro e w6 ⟨r, rfl, r0, r1, hg, hr⟩
      have r2 := r1 (by omega)
      have HR6 := Lib.hid hr
      have HG6 : Hid (w.grownBy w6 (some R)) := Lib.hid (HG5.out.trans hg)
      have HO6 := Lib.hid (HO5.out.kept hg (own_neR HO5.out HL.out))
      have HC6 := Lib.hid (HC5.out.grown hg (by simpa using hgR))
      clear hg hr r1 HR5 HG5 HO5 HC5 HW5
      go_wp2_with fail
      refine (one_any 0 2048 R B A cb zs (p' + 1 + 1 + 1 + 1) w6.heap.size 15 15 _ (HR6.out.below ((Below.refl _ _).alloc (Nat.le_refl _) _)) (by omega) (by have := HR6.out.lt; omega) (by omega) (by omega) (litI rfl rfl (by simp [allI]; omega))).mono ?_
      rintro e w7 ⟨u, rfl, u0, u1, hg, hr⟩
      have hgg := (World.grownBy_alloc w6 (.cells #[.int .i64 1, .int .i64 2, .int .i64 4, .int .i64 8, .int .i64 3, .int .i64 16, .int .i64 0, .int .i64 6, .int .i64 7, .int .i64 r, .int .i64 2048, .int .i64 5, .int .i64 1, .int .i64 2, .int .i64 4] 3) (some R)).trans hg
      have HR7 := Lib.hid hr
      have HG7 : Hid (w.grownBy w7 (some R)) := Lib.hid (HG6.out.trans hgg)
      have HO7 := Lib.hid (HO6.out.kept hgg (own_neR HO6.out HL.out))
      have HC7 := Lib.hid (HC6.out.grown hgg (by simpa using hgR))
      clear hg hr hgg HR6 HG6 HO6 HC6 r0 r2
      generalize w4.heap.size = G at *
      obtain ⟨c0, c1, f0, f1⟩ := HC7.out
      go_wp2_with fail
      obtain ⟨w8, hw8⟩ : ∃ w8 : World, w8 = w7.setCell ⟨G, 1, none⟩ (.int .i64 u) := ⟨_, rfl⟩
      have HC8 : Hid (C2 w8 G (.string s) (.int .i64 u)) := Lib.hid (by rw [hw8]; exact HC7.out.set1 _)
      have HR8 : Hid (Rdr w8 R B A cb zs (p' + 1 + 1 + 1 + 1 + 1)) := Lib.hid (by rw [hw8]; exact HR7.out.set (by show R < G; have := HL.out; omega) _)
      have HG8 : Hid (w.grownBy w8 (some R)) := Lib.hid (by rw [hw8]; exact grown_set HG7.out (by show w.heap.size ≤ G; omega) _)
      have HO8 : Hid (w8.ownsRow w.heap.size 108 2 (.slice A' ds.length c') ds.length (flat ds)) := Lib.hid (by rw [hw8]; exact own_setCell HO7.out HNE.out _)
      rw [← hw8]
      clear hw8 c0 c1 f0 f1 HR7 HG7 HO7 HC7
      obtain ⟨c0, c1, f0, f1⟩ := HC8.out
      have HS8 : Hid (SD w8 w8.heap.size A' ds.length c' ds) := Lib.hid (sd_of_own HO8.out (fun d hd => small_ok (hsm.out d hd)))
      cases hx : decide (fidx (isNm s) ds < 0)
      · have hx1 : ¬ fidx (isNm s) ds < 0 := of_decide_eq_false hx
        generalize hg : fidx (isNm s) ds = q at hx1
        have HG := Lib.hid hg
        clear hx hg
        refine (indexOf_v ds s _ _ _ _ HS8.out HG.out).mono ?_
        rintro e wx ⟨rfl, hwx⟩
        subst hwx
        go_wp2
        go_roundw
        case rel => exact ⟨ds, m, p' + 1 + 1 + 1 + 1 + 1, by go_num, by omega, by omega, hsm, HO8, HG8, HR8⟩
        case measure => simp [intOf]
      · have hx1 : fidx (isNm s) ds < 0 := of_decide_eq_true hx
        generalize hg : fidx (isNm s) ds = q at hx1
        have HG := Lib.hid hg
        clear hx hg
        refine (indexOf_v ds s _ _ _ _ HS8.out HG.out).mono ?_
        rintro e wx ⟨rfl, hwx⟩
        subst hwx
        go_wp2_with (at_builtin; refine wpList_app_D rfl _ _ rfl w.heap.size _ _ _ rfl HO8.out _ _ _ _ rfl (by first | rfl | simp) (by omega) (by have := HG8.out.size; omega) ?_; intro v' w9 ho6 hb6; have HO9 := Lib.hid ho6; have HB9 := Lib.hid hb6; clear ho6 hb6)
        all_goals
          go_roundw
          case rel => exact ⟨ds ++ [⟨s, u⟩], m, p' + 1 + 1 + 1 + 1 + 1, by go_num, by simp; omega, by omega, Lib.hid (by intro d hd; rcases List.mem_append.1 hd with hd | hd; exact hsm.out d hd; simp at hd; subst hd; exact ⟨hs, by show (-5000 : Int) ≤ u; omega, by show u ≤ 5000; omega⟩), Lib.hid (by simpa [flat, encD] using HO9.out), Lib.hid (grown_below HG8.out HB9.out), Lib.hid (HR8.out.belowL HB9.out HL.out)⟩
          case measure => simp [intOf]

/-- A drawn class of flags. -/
def GenFP (m q R B : Nat) (A : Option Addr) (cb : Nat) (zs : List Int) (p : Nat) (w : World) (e : Ending) (w' : World) : Prop :=
  ∃ (A' : Option Addr) (c : Nat) (ds : List D) (b : Int) (p' : Nat), e = .returned (.agg #[.slice A' ds.length c, .int .i64 b]) ∧ ds.length ≤ m ∧ (∀ d ∈ ds, d.small) ∧ (-1 ≤ b ∧ b ≤ 4) ∧
    w'.ownsRow w.heap.size 108 2 (.slice A' ds.length c) ds.length (flat ds) ∧ p' ≤ p + q ∧ w.grownBy w' (some R) ∧ Rdr w' R B A cb zs p'

theorem grown_undrew1 {w w' : World} {row : Option Nat} (h : (w.drewN 1).grownBy w' row) : w.grownBy w' row := ⟨h.os, h.tape, h.output, h.size, h.block⟩
theorem grown_undrew0 {w w' : World} {row : Option Nat} (h : w.drew.grownBy w' row) : w.grownBy w' row := ⟨h.os, h.tape, h.output, h.size, h.block⟩
theorem grown_undrewA {w w' : World} {o : Obj} {row : Option Nat} (h : (w.alloc o).drew.grownBy w' row) : w.grownBy w' row := (World.grownBy_alloc w o row).trans (grown_undrew0 h)
/-- Numbers of a list that was made a little earlier. -/
theorem litK {W W' : World} {row : Option Nat} {g n : Nat} {lo hi : Int} (h : ∀ i, i < n → ∃ v : Int, W.cell? ⟨g, i, none⟩ = some (.int .i64 v) ∧ lo ≤ v ∧ v ≤ hi) (hg : W.grownBy W' row) (hne : some g ≠ row) :
    ∀ i, i < n → ∃ v : Int, W'.cell? ⟨g, i, none⟩ = some (.int .i64 v) ∧ lo ≤ v ∧ v ≤ hi := fun i hi => by
  obtain ⟨v, h1, h2⟩ := h i hi
  exact ⟨v, hg.cell h1 hne, h2⟩
theorem Rdr.drew1 {w : World} {R B : Nat} {A : Option Addr} {cb : Nat} {zs : List Int} {p : Nat} (h : Rdr w R B A cb zs p) : Rdr w.drew R B A cb zs p := ⟨h.blk, Rd.drew h.rd, h.few, h.byt, h.low, h.pmax⟩
theorem grown_rowO {w W w' : World} {row r2 : Option Nat} (h : w.grownBy W row) (hg : W.grownBy w' r2) (hw : ∀ g, r2 = some g → w.heap.size ≤ g) : w.grownBy w' row :=
  ⟨hg.os.trans h.os, hg.tape.trans h.tape, hg.output.trans h.output, Nat.le_trans h.size hg.size, fun k hk hr => (hg.block k (Nat.lt_of_lt_of_le hk h.size) (fun e => by have := hw k e.symm; omega)).trans (h.block k hk hr)⟩

end Go.Proofs.YtiebdhbioccogaaGreatDoor

namespace Go.Proofs.YtiebdhbioccogaaGreatDoor
open Go.RowKit
set_option linter.unusedVariables false
set_option maxRecDepth 100000

theorem SB.allocF {w : World} {A : Option Addr} {n c : Nat} {zs : List Int} (h : SB w w.heap.size A n c zs) (o : Obj) : SB (w.alloc o) (w.alloc o).heap.size A n c zs :=
  ⟨Rd.more (Rd.alloc h.rd (Nat.le_refl _) _) (by simp), h.len, h.cap, h.max, h.byt⟩
/-- A drawn class of flags. -/
def DrawF (w : World) (e : Ending) (w' : World) : Prop :=
  ∃ (A : Option Addr) (c : Nat) (ds : List D) (b : Int), e = .returned (.agg #[.slice A ds.length c, .int .i64 b]) ∧ ds.length ≤ 13 ∧ (∀ d ∈ ds, d.small) ∧ (-1 ≤ b ∧ b ≤ 4) ∧ SD w' w'.heap.size A ds.length c ds ∧ Below w.heap.size w w'
/-- A drawn class of flags and a number. -/
def DrawFN (w : World) (e : Ending) (w' : World) : Prop :=
  ∃ (A : Option Addr) (c : Nat) (ds : List D) (b n : Int), e = .returned (.tuple #[.agg #[.slice A ds.length c, .int .i64 b], .int .i64 n]) ∧ ds.length ≤ 13 ∧ (∀ d ∈ ds, d.small) ∧ (-1 ≤ b ∧ b ≤ 4) ∧ (-5000 ≤ n ∧ n ≤ 5000) ∧ SD w' w'.heap.size A ds.length c ds ∧ Below w.heap.size w w'








end Go.Proofs.YtiebdhbioccogaaGreatDoor

namespace Go.Proofs.YtiebdhbioccogaaGreatDoor
open Go.RowKit
set_option linter.unusedVariables false
set_option maxRecDepth 100000

theorem smallV_and (a b : Nat) (ha : a ≤ 4096) : a &&& b ≤ 4096 := Nat.le_trans (and_le a b) ha
/-- A drawn number, and the reader behind it. -/
def DrawnV (q R B : Nat) (A : Option Addr) (cb : Nat) (zs : List Int) (p : Nat) (w : World) (e : Ending) (w' : World) : Prop :=
  ∃ (v : Int) (p' : Nat), e = .returned (.int .i64 v) ∧ (-1 ≤ v ∧ v ≤ 4096) ∧ p' ≤ p + q ∧ w.grownBy w' (some R) ∧ Rdr w' R B A cb zs p'
/-- A drawn class of flags, and two numbers. -/
def DrawFNN (w : World) (e : Ending) (w' : World) : Prop :=
  ∃ (A : Option Addr) (c : Nat) (ds : List D) (b x y : Int), e = .returned (.tuple #[.agg #[.slice A ds.length c, .int .i64 b], .int .i64 x, .int .i64 y]) ∧ ds.length ≤ 13 ∧ (∀ d ∈ ds, d.small) ∧ (-1 ≤ b ∧ b ≤ 4) ∧ (-1 ≤ x ∧ x ≤ 4096) ∧ (-1 ≤ y ∧ y ≤ 4096) ∧ SD w' w'.heap.size A ds.length c ds ∧ Below w.heap.size w w'
/-- What valuesIn makes: the class in a row of its own. -/
def GenFNN (R B : Nat) (A : Option Addr) (cb : Nat) (zs : List Int) (p : Nat) (w : World) (e : Ending) (w' : World) : Prop :=
  ∃ (A' : Option Addr) (c : Nat) (ds : List D) (b x y : Int), e = .returned (.tuple #[.agg #[.slice A' ds.length c, .int .i64 b], .int .i64 x, .int .i64 y]) ∧ ds.length ≤ 13 ∧ (∀ d ∈ ds, d.small) ∧ (-1 ≤ b ∧ b ≤ 4) ∧ (-1 ≤ x ∧ x ≤ 4096) ∧ (-1 ≤ y ∧ y ≤ 4096) ∧
    w'.ownsRow w.heap.size 108 2 (.slice A' ds.length c) ds.length (flat ds) ∧ w.grownBy w' (some R)
end Go.Proofs.YtiebdhbioccogaaGreatDoor

namespace Go.Proofs.YtiebdhbioccogaaGreatDoor
open Go.RowKit
set_option linter.unusedVariables false
set_option maxRecDepth 100000

def It.small (t : It) : Prop := t.name.size ≤ 100 ∧ -5000 ≤ t.val ∧ t.val ≤ 5000
theorem It.small_ok {t : It} (h : t.small) : t.ok := by
  obtain ⟨h1, h2, h3⟩ := h
  exact ⟨by unfold maxLen; omega, by omega, by omega⟩
def ItsP (R B : Nat) (A : Option Addr) (cb : Nat) (zs : List Int) (p : Nat) (w : World) (e : Ending) (w' : World) : Prop :=
  ∃ (A' : Option Addr) (c : Nat) (ts : List It) (p' : Nat), e = .returned (.slice A' ts.length c) ∧ ts.length ≤ 12 ∧ (∀ t ∈ ts, t.small) ∧
    w'.ownsRow w.heap.size 103 3 (.slice A' ts.length c) ts.length (flatT ts) ∧ p' ≤ p + 130 ∧ w.grownBy w' (some R) ∧ Rdr w' R B A cb zs p'

set_option maxHeartbeats 8000000 in
theorem someItems_any (R B : Nat) (A : Option Addr) (cb : Nat) (zs : List Int) (p : Nat) (w : World) (h : Rdr w R B A cb zs p) (hp : p + 130 ≤ 100000) :
    Calls Tryz.prog 59 #[.pointer (some ⟨R, 0, none⟩), .int .i64 1000] w (ItsP R B A cb zs p w) := by
  have HR := Lib.hid h
  have HL := Lib.hid h.lt
  clear h
  go_enter Tryz.func59, Tryz.ntmps59
  have b1 : Below w.heap.size w (w.alloc (.cells #[] 103)) := (Below.refl _ _).alloc (Nat.le_refl _) _
  have HO1 : Hid ((w.alloc (.cells #[] 103)).ownsRow w.heap.size 103 3 (.slice (some ⟨w.heap.size, 0, none⟩) 0 0) 0 (flatT [])) := Lib.hid (World.ownsRow_made w #[] 0 (Nat.le_refl _) (by unfold maxLen; omega) rfl)
  go_wp2_with fail
  refine (goodDefs_enum 1000 rfl R B A cb zs p _ (HR.out.below b1) (by omega)).mono ?_
  rintro e w1 ⟨A1, c1, ds, p1, rfl, hn, hsm, hown, hp1, hg, hr⟩
  have HO2 := Lib.hid (HO1.out.kept hg (own_neR HO1.out HL.out))
  have HD2 := Lib.hid (own_base hown (show w.heap.size ≤ _ by simp))
  have HG2 : Hid (w.grownBy w1 (some R)) := Lib.hid ((World.grownBy_alloc _ _ _).trans hg)
  have HR2 := Lib.hid hr
  have HSD := Lib.hid hsm
  have hz1 : w.heap.size + 1 ≤ w1.heap.size := by have := hg.size; simpa using this
  clear hg hown hr hsm b1 HO1
  go_wp2_with fail
  go_loopw [5, 7] (fun v i wr => ∃ (ts : List It) (k p' : Nat), k ≤ ds.length ∧ ts.length = k ∧ i = .int .i64 k ∧ p' ≤ p1 + k ∧ Hid (∀ t ∈ ts, t.small) ∧ Hid (wr.ownsRow w.heap.size 103 3 v k (flatT ts)) ∧ Hid (wr.ownsRow w.heap.size 108 2 (.slice A1 ds.length c1) ds.length (flat ds)) ∧ Hid (w.grownBy wr (some R)) ∧ Hid (Rdr wr R B A cb zs p')) (fun _ i _ => ds.length - (intOf i).toNat)
  case atStart => exact ⟨[], 0, p1, Nat.zero_le _, rfl, rfl, by omega, Lib.hid (by simp), HO2, HD2, HG2, HR2⟩
  case round =>
    obtain ⟨ts, k, p', hk, htk, rfl, hp', hts, hown, hdef, hgr, hrd⟩ := hrel
    clear HO2 HD2 HG2 HR2
    obtain ⟨A', c', rfl⟩ := own_form hown.out
    have hzr : w.heap.size ≤ wr.heap.size := hgr.out.size
    by_cases hlt : k < ds.length
    · obtain ⟨g, rfl, hbg, hgl⟩ := own_addr hdef.out (by omega)
      have d1 : wr.cell? ⟨g, k * 2, none⟩ = some (.string ds[k].name) := by rw [hdef.out.cellAt (k * 2) (by omega)]; exact (flat_get ds k hlt).1
      have d2 : wr.cell? ⟨g, k * 2 + 1, none⟩ = some (.int .i64 ds[k].val) := by rw [hdef.out.cellAt (k * 2 + 1) (by omega)]; exact (flat_get ds k hlt).2
      have HSK : Hid (ds[k].name.size ≤ 100 ∧ -5000 ≤ ds[k].val ∧ ds[k].val ≤ 5000) := Lib.hid (HSD.out _ (List.getElem_mem hlt))
      generalize ds[k].name = nm at *
      generalize ds[k].val = vl at *
      have hi1 : (k : Int) < (ds.length : Int) := by omega
      have hi0 : (0 : Int) ≤ (k : Int) := by omega
      have n1 := World.new_ne wr ⟨g, k * 2, none⟩ d1
      have n2 := World.new_ne wr ⟨g, k * 2 + 1, none⟩ d2
      go_wp2_with fail
      go_region_held3 (fun w' => w'.cell? ⟨g, k * 2, none⟩ = some (.string nm) ∧ w'.cell? ⟨g, k * 2 + 1, none⟩ = some (.int .i64 vl)) (go_keep) (fail)
      rename_i hheld
      clear hheld
      have bW : Below wr.heap.size wr (wr.alloc (.cells #[.string nm, .bool false, .int .i64 vl] 103)).drew := ((Below.refl _ _).alloc (Nat.le_refl _) _).drew
      have e1 := keep1 bW d1
      have a0 : (wr.alloc (.cells #[.string nm, .bool false, .int .i64 vl] 103)).drew.cell? ⟨wr.heap.size, 0, none⟩ = some (.string nm) := by simp [go_sem]
      have a1 : (wr.alloc (.cells #[.string nm, .bool false, .int .i64 vl] 103)).drew.cell? ⟨wr.heap.size, 1, none⟩ = some (.bool false) := by simp [go_sem]
      have a2 : (wr.alloc (.cells #[.string nm, .bool false, .int .i64 vl] 103)).drew.cell? ⟨wr.heap.size, 2, none⟩ = some (.int .i64 vl) := by simp [go_sem]
      have fa : ∀ j, (wr.alloc (.cells #[.string nm, .bool false, .int .i64 vl] 103)).drew.frozen? ⟨wr.heap.size, j, none⟩ = false := fun j => by simp [go_sem]
      have HOW := Lib.hid (own_below hown.out bW)
      have HDW := Lib.hid (own_below hdef.out bW)
      have HGW : Hid (w.grownBy (wr.alloc (.cells #[.string nm, .bool false, .int .i64 vl] 103)).drew (some R)) := Lib.hid (grown_drew (hgr.out.trans (World.grownBy_alloc _ _ _)))
      have HRW := Lib.hid (hrd.out.below bW)
      have hzW : wr.heap.size + 1 ≤ (wr.alloc (.cells #[.string nm, .bool false, .int .i64 vl] 103)).drew.heap.size := by simp
      have NEO : Hid (∀ q, (Value.slice A' k c').ownBlock = some q → q < wr.heap.size) := Lib.hid (fun q hq => (hown.out.lt q hq).2)
      have hgR : g ≠ R := by have := HL.out; omega
      have hDR : wr.heap.size ≠ R := by have := HL.out; omega
      have hRb := hrd.out.lt
      clear bW d1 d2 n1 n2 hown hdef hgr hrd
      generalize (wr.alloc (.cells #[.string nm, .bool false, .int .i64 vl] 103)).drew = W at *
      generalize wr.heap.size = D0 at *
      go_wp2_with fail
      refine (pick_any 2 R B A cb zs p' _ HRW.out (by omega) (by omega) (by omega)).mono ?_
      rintro e w2 ⟨r, rfl, r0, r1, hg, hr⟩
      have g1 := hg.cell e1 (by simpa using hgR)
      have b0 := hg.cell a0 (by simpa using hDR)
      have b1 := hg.cell a1 (by simpa using hDR)
      have b2 := hg.cell a2 (by simpa using hDR)
      have fb0 : w2.frozen? ⟨D0, 0, none⟩ = false := grown_frozen hg (by show D0 < _; omega) (fa 0) (by simpa using hDR)
      have fb1 : w2.frozen? ⟨D0, 1, none⟩ = false := grown_frozen hg (by show D0 < _; omega) (fa 1) (by simpa using hDR)
      have fb2 : w2.frozen? ⟨D0, 2, none⟩ = false := grown_frozen hg (by show D0 < _; omega) (fa 2) (by simpa using hDR)
      have HO2 := Lib.hid (HOW.out.kept hg (own_neR HOW.out HL.out))
      have HD2 := Lib.hid (HDW.out.kept hg (own_neR HDW.out HL.out))
      have HG2 := Lib.hid (HGW.out.trans hg)
      have HR2 := Lib.hid hr
      have hz2 : D0 + 1 ≤ w2.heap.size := Nat.le_trans hzW hg.size
      clear hg hr e1 a0 a1 a2 fa HOW HDW HGW HRW r1
      by_cases hr0 : r = 0
      · have hq : (r == 0) = true := beq_iff_eq.2 hr0
        clear hr0
        have hgD : D0 ≠ g := by omega
        have NE0 : Hid ((Value.slice A' k c').ownBlock ≠ some D0) := Lib.hid (fun e => by have := NEO.out _ e; omega)
        have NED : Hid ((Value.slice (some ⟨g, 0, none⟩) ds.length c1).ownBlock ≠ some D0) := Lib.hid (by simp [Value.ownBlock]; omega)
        have HO3 : Hid ((((w2.setCell ⟨D0, 0, none⟩ (.string nm)).setCell ⟨D0, 1, none⟩ (.bool true)).setCell ⟨D0, 2, none⟩ (.int .i64 0)).ownsRow w.heap.size 103 3 (.slice A' k c') k (flatT ts)) := Lib.hid (own_setCell (own_setCell (own_setCell HO2.out NE0.out _) NE0.out _) NE0.out _)
        have HD3 : Hid ((((w2.setCell ⟨D0, 0, none⟩ (.string nm)).setCell ⟨D0, 1, none⟩ (.bool true)).setCell ⟨D0, 2, none⟩ (.int .i64 0)).ownsRow w.heap.size 108 2 (.slice (some ⟨g, 0, none⟩) ds.length c1) ds.length (flat ds)) := Lib.hid (own_setCell (own_setCell (own_setCell HD2.out NED.out _) NED.out _) NED.out _)
        have HG3 : Hid (w.grownBy (((w2.setCell ⟨D0, 0, none⟩ (.string nm)).setCell ⟨D0, 1, none⟩ (.bool true)).setCell ⟨D0, 2, none⟩ (.int .i64 0)) (some R)) := Lib.hid (grown_set (grown_set (grown_set HG2.out (by show w.heap.size ≤ D0; omega) _) (by show w.heap.size ≤ D0; omega) _) (by show w.heap.size ≤ D0; omega) _)
        have HR3 : Hid (Rdr (((w2.setCell ⟨D0, 0, none⟩ (.string nm)).setCell ⟨D0, 1, none⟩ (.bool true)).setCell ⟨D0, 2, none⟩ (.int .i64 0)) R B A cb zs (p' + 1)) := Lib.hid (((HR2.out.set (by show R < D0; omega) _).set (by show R < D0; omega) _).set (by show R < D0; omega) _)
        have hz3 : w.heap.size ≤ (((w2.setCell ⟨D0, 0, none⟩ (.string nm)).setCell ⟨D0, 1, none⟩ (.bool true)).setCell ⟨D0, 2, none⟩ (.int .i64 0)).heap.size := by simp only [World.size_setCell]; omega
        go_wp2_with (
          at_builtin
          refine wpList_app_T rfl _ _ rfl w.heap.size _ _ _ rfl HO3.out _ _ _ _ _ rfl (by first | rfl | simp) (by omega) (by omega) ?_
          intro v' w4 ho hg
          have HD4 := Lib.hid (HD3.out.kept hg (own_ne_type HD3.out HO3.out (by decide)))
          have HLT : Hid (∀ q, (Value.slice A' k c').ownBlock = some q → w.heap.size ≤ q) := Lib.hid (fun q hq => (HO3.out.lt q hq).1)
          have HG4 := Lib.hid (grown_rowO HG3.out hg HLT.out)
          have HR4 := Lib.hid (HR3.out.grown hg (fun e => by have := HLT.out R e.symm; have := HL.out; omega) (fun q hq => by have := HLT.out q hq; have := HR3.out.low; have := HL.out; omega))
          have HO4 := Lib.hid ho
          clear ho hg)
        go_roundw
        case rel => exact ⟨ts ++ [⟨nm, true, 0⟩], k + 1, p' + 1, by omega, by simp [htk], by go_num, by omega, Lib.hid (by intro x hx; rcases List.mem_append.1 hx with hx | hx; exact hts.out x hx; simp at hx; subst hx; exact ⟨HSK.out.1, by show (-5000 : Int) ≤ 0; decide, by show (0 : Int) ≤ 5000; decide⟩), Lib.hid (by have := HO4.out; simpa [flatT, encT] using this), HD4, HG4, HR4⟩
        case measure => simp [intOf]; omega
      · have hq : (r == 0) = false := beq_eq_false_iff_ne.2 hr0
        clear hr0
        go_wp2_with (
          at_builtin
          refine wpList_app_T rfl _ _ rfl w.heap.size _ _ _ rfl HO2.out _ _ _ _ _ rfl (by first | rfl | simp) (by omega) (by omega) ?_
          intro v' w4 ho hg
          have HD4 := Lib.hid (HD2.out.kept hg (own_ne_type HD2.out HO2.out (by decide)))
          have HLT : Hid (∀ q, (Value.slice A' k c').ownBlock = some q → w.heap.size ≤ q) := Lib.hid (fun q hq => (HO2.out.lt q hq).1)
          have HG4 := Lib.hid (grown_rowO HG2.out hg HLT.out)
          have HR4 := Lib.hid (HR2.out.grown hg (fun e => by have := HLT.out R e.symm; have := HL.out; omega) (fun q hq => by have := HLT.out q hq; have := HR2.out.low; have := HL.out; omega))
          have HO4 := Lib.hid ho
          clear ho hg)
        go_roundw
        case rel => exact ⟨ts ++ [⟨nm, false, vl⟩], k + 1, p' + 1, by omega, by simp [htk], by go_num, by omega, Lib.hid (by intro x hx; rcases List.mem_append.1 hx with hx | hx; exact hts.out x hx; simp at hx; subst hx; exact ⟨HSK.out.1, HSK.out.2⟩), Lib.hid (by have := HO4.out; simpa [flatT, encT] using this), HD4, HG4, HR4⟩
        case measure => simp [intOf]; omega
    · obtain rfl : k = ds.length := by omega
      clear hdef
      by_cases h0 : ds.length = 0
      · have h01 : ¬ (0 < (ds.length : Int)) := by omega
        clear h0
        go_wp2
        go_ret
        exact ⟨A', c', ts, p', by rw [htk]; rfl, by omega, hts.out, by rw [htk]; exact hown.out, by omega, hgr.out, hrd.out⟩
      · have h01 : (0 < (ds.length : Int)) := by omega
        obtain ⟨g, rfl, hbg, hgl⟩ := own_addr hown.out (by omega)
        have hgR : g ≠ R := by have := HL.out; omega
        go_wp2_with fail
        refine (pick_any 16 R B A cb zs p' _ hrd.out (by omega) (by omega) (by omega)).mono ?_
        rintro e w2 ⟨q, rfl, r0, r1, hg, hr⟩
        have HO2 := Lib.hid (hown.out.kept hg (own_neR hown.out HL.out))
        have HG2 := Lib.hid (hgr.out.trans hg)
        have HR2 := Lib.hid hr
        clear hg hr hown hgr hrd r1
        by_cases hq0 : q = 0
        · have hq : (q == 0) = true := beq_iff_eq.2 hq0
          clear hq0
          go_wp2_with fail
          refine (pick_any ds.length R B A cb zs (p' + 1) _ HR2.out (by omega) (by omega) (by omega)).mono ?_
          rintro e w3 ⟨j, rfl, j0, j1, hg, hr⟩
          replace j1 := j1 (by omega)
          obtain ⟨j, rfl⟩ := Int.eq_ofNat_of_zero_le j0
          have hj : j < ds.length := by omega
          have HO3 := Lib.hid (HO2.out.kept hg (own_neR HO2.out HL.out))
          have HG3 := Lib.hid (HG2.out.trans hg)
          have HR3 := Lib.hid hr
          clear hg hr HO2 HG2 HR2
          go_wp2_with fail
          refine (anyName_any R B A cb zs (p' + 1 + 1) _ HR3.out (by omega)).mono ?_
          rintro e w4 ⟨s, p4, rfl, hs, hp4, hg, hr⟩
          have HO4 := Lib.hid (HO3.out.kept hg (own_neR HO3.out HL.out))
          have HG4 := Lib.hid (HG3.out.trans hg)
          have HR4 := Lib.hid hr
          clear hg hr HO3 HG3 HR3
          go_wp2_with fail
          refine (pick_any 2 R B A cb zs p4 _ HR4.out (by omega) (by omega) (by omega)).mono ?_
          rintro e w5 ⟨u, rfl, u0, u1, hg, hr⟩
          have HO5 := Lib.hid (HO4.out.kept hg (own_neR HO4.out HL.out))
          have HG5 := Lib.hid (HG4.out.trans hg)
          have HR5 := Lib.hid hr
          have hz5 := hr.lt
          clear hg hr HO4 HG4 HR4 u1
          go_wp2_with fail
          refine (one_any (-5000) 5000 R B A cb zs (p4 + 1) w5.heap.size 4 4 _ (HR5.out.below ((Below.refl _ _).alloc (Nat.le_refl _) _)) (by omega) (by omega) (by omega) (by omega) (litI rfl rfl (by simp [allI]))).mono ?_
          rintro e w6 ⟨v, rfl, v0, v1, hg, hr⟩
          have HO6 := Lib.hid ((HO5.out.alloc _).kept hg (own_neR HO5.out HL.out))
          have HG6 : Hid (w.grownBy w6 (some R)) := Lib.hid ((HG5.out.trans (World.grownBy_alloc _ _ _)).trans hg)
          have HR6 := Lib.hid hr
          have hf1 := HO6.out.frozenAt (j * 3)
          have hf2 := HO6.out.frozenAt (j * 3 + 1)
          have hf3 := HO6.out.frozenAt (j * 3 + 2)
          obtain ⟨y1, hx1⟩ := own_cell HO6.out (j * 3) (by omega)
          obtain ⟨y2, hx2⟩ := own_cell HO6.out (j * 3 + 1) (by omega)
          obtain ⟨y3, hx3⟩ := own_cell HO6.out (j * 3 + 2) (by omega)
          clear hg hr HO5 HG5 HR5
          generalize hbu : (u == 0) = bu
          have hs1 := HO6.out.stored (j * 3) (.string s)
          have hs2 := hs1.1.stored (j * 3 + 1) (.bool bu)
          have hs3 := hs2.1.stored (j * 3 + 2) (.int .i64 v)
          have HF := Lib.hid (flatT_set ts j (by omega) ⟨s, bu, v⟩)
          have H3 := Lib.hid hs3.1
          clear hs1 hs2 hs3
          go_wp2
          go_ret
          refine ⟨_, c', ts.set j ⟨s, bu, v⟩, p4 + 1 + 1, by rw [List.length_set, htk]; rfl, by rw [List.length_set]; omega, ?_, ?_, by omega, ?_, ?_⟩
          · intro x hx
            rcases List.mem_or_eq_of_mem_set hx with h1 | rfl
            · exact hts.out x h1
            · exact ⟨hs, v0, v1⟩
          · rw [List.length_set, htk, ← HF.out]
            exact H3.out
          · exact grown_set (grown_set (grown_set HG6.out (by show w.heap.size ≤ g; omega) _) (by show w.heap.size ≤ g; omega) _) (by show w.heap.size ≤ g; omega) _
          · exact ((HR6.out.set (by show R < g; have := HL.out; omega) _).set (by show R < g; have := HL.out; omega) _).set (by show R < g; have := HL.out; omega) _
        · have hq : (q == 0) = false := beq_eq_false_iff_ne.2 hq0
          clear hq0
          go_wp2
          go_ret
          exact ⟨_, c', ts, p' + 1, by rw [htk]; rfl, by omega, hts.out, by rw [htk]; exact HO2.out, by omega, HG2.out, HR2.out⟩
end Go.Proofs.YtiebdhbioccogaaGreatDoor

namespace Go.Proofs.YtiebdhbioccogaaGreatDoor
open Go.RowKit
set_option linter.unusedVariables false
set_option maxRecDepth 100000

/-- What valueIn makes: the class in a row of its own, and a number. -/
def GenFN (R B : Nat) (A : Option Addr) (cb : Nat) (zs : List Int) (p : Nat) (w : World) (e : Ending) (w' : World) : Prop :=
  ∃ (A' : Option Addr) (c : Nat) (ds : List D) (b x : Int), e = .returned (.tuple #[.agg #[.slice A' ds.length c, .int .i64 b], .int .i64 x]) ∧ ds.length ≤ 13 ∧ (∀ d ∈ ds, d.small) ∧ (-1 ≤ b ∧ b ≤ 4) ∧ (-1 ≤ x ∧ x ≤ 4096) ∧
    w'.ownsRow w.heap.size 108 2 (.slice A' ds.length c) ds.length (flat ds) ∧ w.grownBy w' (some R)
end Go.Proofs.YtiebdhbioccogaaGreatDoor

namespace Go.Proofs.YtiebdhbioccogaaGreatDoor
open Go.RowKit
set_option linter.unusedVariables false
set_option linter.unusedSimpArgs false
set_option maxRecDepth 100000

/-- 'append(out, x)', x one text: the row behind it, and what of the world is as it was. -/
theorem wpList_app_Sk {W : World} {ops : Array Oper} {rest : List Oper} {o : Oper} {a : Act} {Q : Exit → Act → World → Prop} (hgd : o.guard = none) (s x : Operand) (ho : o.op = .call { callee := .builtin .append, args := #[s, x], argTypes := #[22, 22] })
    (base : Nat) (v : Value) (n : Nat) (xs : List Value) (hs : a.eval s = v) (hown : W.ownsRow base 9 1 v n xs) (nm : ByteArray)
    (c g : Nat) (hx : a.eval x = .slice (some ⟨g, 0, none⟩) 1 c) (hgw : g = W.heap.size) (hn : n ≤ 2000000) (hbase : base ≤ W.heap.size)
    (h : ∀ v' w', w'.ownsRow base 9 1 v' (n + 1) (xs ++ [.string nm]) → W.grownBy w' v.ownBlock → wpList Tryz.prog ops Q rest (a.put o.dst v') w') :
    wpList Tryz.prog ops Q (o :: rest) a (W.alloc (.cells #[.string nm] 9)) := by
  subst hgw
  obtain ⟨i0, hi, hz0, hz1, hz2⟩ := info_parts info_S
  refine wpList_append_own _ hgd s x _ ho base _ i0 _ 1 16 Tryz.underlying22 hi hz0 hz1 hz2 rfl (by omega) v n xs hs (hown.alloc _) ⟨W.heap.size, 0, none⟩ 1 c [.string nm] hx rfl
    (World.news_of_block (heap_alloc_new W _)) (by simp [Value.oneCell']) (by unfold maxLen; omega) (by omega) (by simp; omega) ?_
  intro v' w' h2 h3 _
  exact h v' w' h2 ((World.grownBy_alloc W _ _).trans h3)
/-- A drawn list of names, and the reader behind it. -/
def NamesP (R B : Nat) (A : Option Addr) (cb : Nat) (zs : List Int) (p : Nat) (w : World) (e : Ending) (w' : World) : Prop :=
  ∃ (A' : Option Addr) (c : Nat) (ss : List ByteArray) (p' : Nat), e = .returned (.slice A' ss.length c) ∧ ss.length ≤ 3 ∧ (∀ s ∈ ss, s.size ≤ 100) ∧
    w'.ownsRow w.heap.size 9 1 (.slice A' ss.length c) ss.length (ss.map .string) ∧ p' ≤ p + 20 ∧ w.grownBy w' (some R) ∧ Rdr w' R B A cb zs p'
set_option maxHeartbeats 8000000 in
theorem someNames_any (R B : Nat) (A : Option Addr) (cb : Nat) (zs : List Int) (p : Nat) (ds : List D) (Af : Option Addr) (nf cf base : Nat) (w : World) (h : Rdr w R B A cb zs p) (hp : p + 30 ≤ 100000)
    (ho : w.ownsRow base 108 2 (.slice Af nf cf) nf (flat ds)) (hok : ∀ d ∈ ds, d.small) (hRb : R < base) (hn : nf = ds.length) (hn13 : ds.length ≤ 25) :
    Calls Tryz.prog 60 #[.pointer (some ⟨R, 0, none⟩), .slice Af nf cf] w (NamesP R B A cb zs p w) := by
  subst hn
  have HR := Lib.hid h
  have HL := Lib.hid h.lt
  have HSM := Lib.hid hok
  have b1 : Below w.heap.size w (w.alloc (.cells #[] 9)) := (Below.refl _ _).alloc (Nat.le_refl _) _
  have HO1 : Hid ((w.alloc (.cells #[] 9)).ownsRow w.heap.size 9 1 (.slice (some ⟨w.heap.size, 0, none⟩) 0 0) 0 ([].map Value.string)) := Lib.hid (World.ownsRow_made w #[] 0 (Nat.le_refl _) (by unfold maxLen; omega) rfl)
  have HD1 := Lib.hid (own_below ho b1)
  have HR1 := Lib.hid (h.below b1)
  have HG1 : Hid (w.grownBy (w.alloc (.cells #[] 9)) (some R)) := Lib.hid (grown_of_below b1 _)
  clear h ho hok b1
  go_enter Tryz.func60, Tryz.ntmps60
  go_wp2_with fail
  refine (pick_any 4 R B A cb zs p _ HR1.out (by omega) (by omega) (by omega)).mono ?_
  rintro e w1 ⟨q, rfl, qa, qb, hg, hr⟩
  have qc := qb (by omega)
  obtain ⟨m0, rfl⟩ := Int.eq_ofNat_of_zero_le qa
  have HO2 := Lib.hid (HO1.out.kept hg (own_neR HO1.out HL.out))
  have HD2 := Lib.hid (HD1.out.kept hg (own_neR HD1.out hRb))
  have HG2 : Hid (w.grownBy w1 (some R)) := Lib.hid (HG1.out.trans hg)
  have HR2 := Lib.hid hr
  clear hg hr qb HO1 HD1 HG1 HR1
  go_wp2_with fail
  go_loopw [5, 6] (fun v i wr => ∃ (ss : List ByteArray) (m p' : Nat), i = .int .i64 m ∧ ss.length + m ≤ 3 ∧ p' + 4 * m ≤ p + 1 + 12 ∧ Hid (∀ s ∈ ss, s.size ≤ 100) ∧ Hid (wr.ownsRow w.heap.size 9 1 v ss.length (ss.map .string)) ∧ Hid (wr.ownsRow base 108 2 (.slice Af ds.length cf) ds.length (flat ds)) ∧ Hid (w.grownBy wr (some R)) ∧ Hid (Rdr wr R B A cb zs p')) (fun _ i _ => (intOf i).toNat)
  case atStart => exact ⟨[], m0, p + 1, rfl, by simp; omega, by omega, Lib.hid (by simp), HO2, HD2, HG2, HR2⟩
  case round =>
    obtain ⟨ss, m, p', rfl, hm, hp', hsz, hown, hdef, hgr, hrd⟩ := hrel
    clear HO2 HD2 HG2 HR2
    obtain ⟨A', c', rfl⟩ := own_form hown.out
    by_cases hm0 : m = 0
    · subst hm0
      go_wp2
      go_ret
      exact ⟨A', c', ss, p', rfl, by omega, hsz.out, hown.out, by omega, hgr.out, hrd.out⟩
    · obtain ⟨m, rfl⟩ : ∃ q, m = q + 1 := ⟨m - 1, by omega⟩
      clear hm0
      have HO3 := Lib.hid hown.out
      have HD3 := Lib.hid hdef.out
      have HG3 := Lib.hid hgr.out
      have HR3 := Lib.hid hrd.out
      clear hown hdef hgr hrd
      by_cases h0 : ds.length = 0
      · have h01 : ¬ (0 < (ds.length : Int)) := by omega
        clear h0
        go_wp2_with fail
        refine (anyName_any R B A cb zs (p') _ HR3.out (by omega)).mono ?_
        rintro e w7 ⟨s, p5, rfl, hs, hp5, hg, hr⟩
        have HO7 := Lib.hid (HO3.out.kept hg (own_neR HO3.out HL.out))
        have HD7 := Lib.hid (HD3.out.kept hg (own_neR HD3.out hRb))
        have HG7 : Hid (w.grownBy w7 (some R)) := Lib.hid (HG3.out.trans hg)
        have HR7 := Lib.hid hr
        clear hg hr HO3 HD3 HG3 HR3
        go_wp2_with (
          at_builtin
          refine wpList_app_Sk rfl _ _ rfl w.heap.size _ _ _ rfl HO7.out _ _ _ rfl (by first | rfl | simp) (by omega) HG7.out.size ?_
          intro v' w9 ho hg
          have HD9 := Lib.hid (HD7.out.kept hg (own_ne_type HD7.out HO7.out (by decide)))
          have HLT : Hid (∀ q, (Value.slice A' ss.length c').ownBlock = some q → w.heap.size ≤ q) := Lib.hid (fun q hq => (HO7.out.lt q hq).1)
          have HG9 := Lib.hid (grown_rowO HG7.out hg HLT.out)
          have HR9 := Lib.hid (HR7.out.grown hg (fun e => by have := HLT.out R e.symm; have := HL.out; omega) (fun q hq => by have := HLT.out q hq; have := HR7.out.low; have := HL.out; omega))
          have HO9 := Lib.hid ho
          clear ho hg)
        go_roundw
        case rel => exact ⟨ss ++ [s], m, p5, by go_num, by simp; omega, by omega, Lib.hid (by intro x hx; rcases List.mem_append.1 hx with hx | hx; exact hsz.out x hx; simp at hx; subst hx; exact hs), Lib.hid (by have := HO9.out; simpa using this), HD9, HG9, HR9⟩
        case measure => (simp [intOf]; try omega)
      · have h01 : (0 < (ds.length : Int)) := by omega
        go_wp2_with fail
        refine (pick_any 12 R B A cb zs p' _ HR3.out (by omega) (by omega) (by omega)).mono ?_
        rintro e w4 ⟨r, rfl, ra, rb, hg, hr⟩
        clear rb
        have HO4 := Lib.hid (HO3.out.kept hg (own_neR HO3.out HL.out))
        have HD4 := Lib.hid (HD3.out.kept hg (own_neR HD3.out hRb))
        have HG4 : Hid (w.grownBy w4 (some R)) := Lib.hid (HG3.out.trans hg)
        have HR4 := Lib.hid hr
        clear hg hr HO3 HD3 HG3 HR3
        by_cases h1 : 0 < r
        · skip
          go_wp2_with fail
          refine (pick_any ds.length R B A cb zs (p' + 1) _ HR4.out (by omega) (by omega) (by omega)).mono ?_
          rintro e w5 ⟨k, rfl, ka, kb, hg, hr⟩
          have kc := kb (by omega)
          obtain ⟨k, rfl⟩ := Int.eq_ofNat_of_zero_le ka
          have hk : k < ds.length := by omega
          clear kb
          have HO5 := Lib.hid (HO4.out.kept hg (own_neR HO4.out HL.out))
          have HD5 := Lib.hid (HD4.out.kept hg (own_neR HD4.out hRb))
          have HG5 : Hid (w.grownBy w5 (some R)) := Lib.hid (HG4.out.trans hg)
          have HR5 := Lib.hid hr
          clear hg hr HO4 HD4 HG4 HR4
          obtain ⟨g, rfl, hbg, hgl⟩ := own_addr HD5.out (by omega)
          have d1 : w5.cell? ⟨g, k * 2, none⟩ = some (.string ds[k].name) := by rw [HD5.out.cellAt (k * 2) (by omega)]; exact (flat_get ds k hk).1
          have HSK := Lib.hid (HSM.out _ (List.getElem_mem hk)).1
          generalize ds[k].name = nm at *
          go_wp2_with (
            at_builtin
            refine wpList_app_Sk rfl _ _ rfl w.heap.size _ _ _ rfl HO5.out _ _ _ rfl (by first | rfl | simp) (by omega) HG5.out.size ?_
            intro v' w9 ho hg
            have HD9 := Lib.hid (HD5.out.kept hg (own_ne_type HD5.out HO5.out (by decide)))
            have HLT : Hid (∀ q, (Value.slice A' ss.length c').ownBlock = some q → w.heap.size ≤ q) := Lib.hid (fun q hq => (HO5.out.lt q hq).1)
            have HG9 := Lib.hid (grown_rowO HG5.out hg HLT.out)
            have HR9 := Lib.hid (HR5.out.grown hg (fun e => by have := HLT.out R e.symm; have := HL.out; omega) (fun q hq => by have := HLT.out q hq; have := HR5.out.low; have := HL.out; omega))
            have HO9 := Lib.hid ho
            clear ho hg)
          go_roundw
          case rel => exact ⟨ss ++ [nm], m, p' + 1 + 1, by go_num, by simp; omega, by omega, Lib.hid (by intro x hx; rcases List.mem_append.1 hx with hx | hx; exact hsz.out x hx; simp at hx; subst hx; exact HSK.out), Lib.hid (by have := HO9.out; simpa using this), HD9, HG9, HR9⟩
          case measure => (simp [intOf]; try omega)
        go_wp2_with fail
        refine (anyName_any R B A cb zs (p' + 1) _ HR4.out (by omega)).mono ?_
        rintro e w7 ⟨s, p5, rfl, hs, hp5, hg, hr⟩
        have HO7 := Lib.hid (HO4.out.kept hg (own_neR HO4.out HL.out))
        have HD7 := Lib.hid (HD4.out.kept hg (own_neR HD4.out hRb))
        have HG7 : Hid (w.grownBy w7 (some R)) := Lib.hid (HG4.out.trans hg)
        have HR7 := Lib.hid hr
        clear hg hr HO4 HD4 HG4 HR4
        go_wp2_with (
          at_builtin
          refine wpList_app_Sk rfl _ _ rfl w.heap.size _ _ _ rfl HO7.out _ _ _ rfl (by first | rfl | simp) (by omega) HG7.out.size ?_
          intro v' w9 ho hg
          have HD9 := Lib.hid (HD7.out.kept hg (own_ne_type HD7.out HO7.out (by decide)))
          have HLT : Hid (∀ q, (Value.slice A' ss.length c').ownBlock = some q → w.heap.size ≤ q) := Lib.hid (fun q hq => (HO7.out.lt q hq).1)
          have HG9 := Lib.hid (grown_rowO HG7.out hg HLT.out)
          have HR9 := Lib.hid (HR7.out.grown hg (fun e => by have := HLT.out R e.symm; have := HL.out; omega) (fun q hq => by have := HLT.out q hq; have := HR7.out.low; have := HL.out; omega))
          have HO9 := Lib.hid ho
          clear ho hg)
        go_roundw
        case rel => exact ⟨ss ++ [s], m, p5, by go_num, by simp; omega, by omega, Lib.hid (by intro x hx; rcases List.mem_append.1 hx with hx | hx; exact hsz.out x hx; simp at hx; subst hx; exact hs), Lib.hid (by have := HO9.out; simpa using this), HD9, HG9, HR9⟩
        case measure => (simp [intOf]; try omega)
end Go.Proofs.YtiebdhbioccogaaGreatDoor

