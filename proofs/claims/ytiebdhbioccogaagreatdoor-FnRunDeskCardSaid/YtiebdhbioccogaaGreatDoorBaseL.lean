import Derived.Test.YtiebdhbioccogaaGreatDoorBaseZ
import Derived.Test.YtiebdhbioccogaaGreatDoorBaseG
import Derived.Test.YtiebdhbioccogaaGreatDoorGenTx
import Derived.Test.YtiebdhbioccogaaGreatDoorBaseI
namespace Go.Proofs.YtiebdhbioccogaaGreatDoor
open Go.RowKit
set_option linter.unusedVariables false
set_option maxRecDepth 100000

set_option maxHeartbeats 8000000 in
theorem someItemsF_any (R B : Nat) (A : Option Addr) (cb : Nat) (zs : List Int) (p : Nat) (w : World) (h : Rdr w R B A cb zs p) (hp : p + 130 ≤ 100000) :
    Calls Tryz.prog 59 #[.pointer (some ⟨R, 0, none⟩), .int .i64 4095] w (ItsP R B A cb zs p w) := by
  have HR := Lib.hid h
  have HL := Lib.hid h.lt
  clear h
  go_enter Tryz.func59, Tryz.ntmps59
  have b1 : Below w.heap.size w (w.alloc (.cells #[] 103)) := (Below.refl _ _).alloc (Nat.le_refl _) _
  have HO1 : Hid ((w.alloc (.cells #[] 103)).ownsRow w.heap.size 103 3 (.slice (some ⟨w.heap.size, 0, none⟩) 0 0) 0 (flatT [])) := Lib.hid (World.ownsRow_made w #[] 0 (Nat.le_refl _) (by unfold maxLen; omega) rfl)
  go_wp2_with fail
  refine (goodDefs_flag R B A cb zs p _ (HR.out.below b1) (by omega)).mono ?_
  rintro e w1 ⟨A1, c1, ds, p1, rfl, hn, hsm, hown, hp1, hg, hr⟩
  have HO2 := Lib.hid (HO1.out.kept hg (own_neR HO1.out HL.out))
  have HD2 := Lib.hid (own_base hown (show w.heap.size ≤ _ by simp))
  have HG2 : Hid (w.grownBy w1 (some R)) := Lib.hid ((World.grownBy_alloc _ _ _).trans hg)
  have HR2 := Lib.hid hr
  have HSD := Lib.hid hsm
  have hz1 : w.heap.size + 1 ≤ w1.heap.size := by have := hg.size; simpa using this
  clear hg hown hr hsm b1 HO1
  go_wp2_with fail
  go_loopw [5, 7] (fun v i wr => ∃ (ts : List It) (k p' : Nat), k ≤ ds.length ∧ ts.length = k ∧ i = .int .i64 k ∧ p' ≤ p1 + k ∧ Hid (∀ t ∈ ts, t.small) ∧ Hid (wr.ownsRow w.heap.size 103 3 v k (flatT ts)) ∧ Hid (wr.ownsRow w.heap.size 108 2 (.slice A1 ds.length c1) ds.length (flat ds)) ∧ Hid (w.grownBy wr (some R)) ∧ Hid (Rdr wr R B A cb zs p')) (fun _ i _ => ds.length - (intOf i).toNat)
  case atStart => exact ⟨[], 0, p1, Nat.zero_le _, rfl, rfl, by omega, Lib.hid (by simp), HO2, HD2, HG2, HR2⟩
  case round =>
    obtain ⟨ts, k, p', hk, htk, rfl, hp', hts, hown, hdef, hgr, hrd⟩ := hrel
    clear HO2 HD2 HG2 HR2
    obtain ⟨A', c', rfl⟩ := own_form hown.out
    have hzr : w.heap.size ≤ wr.heap.size := hgr.out.size
    by_cases hlt : k < ds.length
    · obtain ⟨g, rfl, hbg, hgl⟩ := own_addr hdef.out (by omega)
      have d1 : wr.cell? ⟨g, k * 2, none⟩ = some (.string ds[k].name) := by rw [hdef.out.cellAt (k * 2) (by omega)]; exact (flat_get ds k hlt).1
      have d2 : wr.cell? ⟨g, k * 2 + 1, none⟩ = some (.int .i64 ds[k].val) := by rw [hdef.out.cellAt (k * 2 + 1) (by omega)]; exact (flat_get ds k hlt).2
      have HSK : Hid (ds[k].name.size ≤ 100 ∧ -5000 ≤ ds[k].val ∧ ds[k].val ≤ 5000) := Lib.hid (HSD.out _ (List.getElem_mem hlt))
      generalize ds[k].name = nm at *
      generalize ds[k].val = vl at *
      have hi1 : (k : Int) < (ds.length : Int) := by omega
      have hi0 : (0 : Int) ≤ (k : Int) := by omega
      have n1 := World.new_ne wr ⟨g, k * 2, none⟩ d1
      have n2 := World.new_ne wr ⟨g, k * 2 + 1, none⟩ d2
      go_wp2_with fail
      go_region_held3 (fun w' => w'.cell? ⟨g, k * 2, none⟩ = some (.string nm) ∧ w'.cell? ⟨g, k * 2 + 1, none⟩ = some (.int .i64 vl)) (go_keep) (fail)
      rename_i hheld
      clear hheld
      have bW : Below wr.heap.size wr (wr.alloc (.cells #[.string nm, .bool false, .int .i64 vl] 103)).drew := ((Below.refl _ _).alloc (Nat.le_refl _) _).drew
      have e1 := keep1 bW d1
      have a0 : (wr.alloc (.cells #[.string nm, .bool false, .int .i64 vl] 103)).drew.cell? ⟨wr.heap.size, 0, none⟩ = some (.string nm) := by simp [go_sem]
      have a1 : (wr.alloc (.cells #[.string nm, .bool false, .int .i64 vl] 103)).drew.cell? ⟨wr.heap.size, 1, none⟩ = some (.bool false) := by simp [go_sem]
      have a2 : (wr.alloc (.cells #[.string nm, .bool false, .int .i64 vl] 103)).drew.cell? ⟨wr.heap.size, 2, none⟩ = some (.int .i64 vl) := by simp [go_sem]
      have fa : ∀ j, (wr.alloc (.cells #[.string nm, .bool false, .int .i64 vl] 103)).drew.frozen? ⟨wr.heap.size, j, none⟩ = false := fun j => by simp [go_sem]
      have HOW := Lib.hid (own_below hown.out bW)
      have HDW := Lib.hid (own_below hdef.out bW)
      have HGW : Hid (w.grownBy (wr.alloc (.cells #[.string nm, .bool false, .int .i64 vl] 103)).drew (some R)) := Lib.hid (grown_drew (hgr.out.trans (World.grownBy_alloc _ _ _)))
      have HRW := Lib.hid (hrd.out.below bW)
      have hzW : wr.heap.size + 1 ≤ (wr.alloc (.cells #[.string nm, .bool false, .int .i64 vl] 103)).drew.heap.size := by simp
      have NEO : Hid (∀ q, (Value.slice A' k c').ownBlock = some q → q < wr.heap.size) := Lib.hid (fun q hq => (hown.out.lt q hq).2)
      have hgR : g ≠ R := by have := HL.out; omega
      have hDR : wr.heap.size ≠ R := by have := HL.out; omega
      have hRb := hrd.out.lt
      clear bW d1 d2 n1 n2 hown hdef hgr hrd
      generalize (wr.alloc (.cells #[.string nm, .bool false, .int .i64 vl] 103)).drew = W at *
      generalize wr.heap.size = D0 at *
      go_wp2_with fail
      refine (pick_any 2 R B A cb zs p' _ HRW.out (by omega) (by omega) (by omega)).mono ?_
      rintro e w2 ⟨r, rfl, r0, r1, hg, hr⟩
      have g1 := hg.cell e1 (by simpa using hgR)
      have b0 := hg.cell a0 (by simpa using hDR)
      have b1 := hg.cell a1 (by simpa using hDR)
      have b2 := hg.cell a2 (by simpa using hDR)
      have fb0 : w2.frozen? ⟨D0, 0, none⟩ = false := grown_frozen hg (by show D0 < _; omega) (fa 0) (by simpa using hDR)
      have fb1 : w2.frozen? ⟨D0, 1, none⟩ = false := grown_frozen hg (by show D0 < _; omega) (fa 1) (by simpa using hDR)
      have fb2 : w2.frozen? ⟨D0, 2, none⟩ = false := grown_frozen hg (by show D0 < _; omega) (fa 2) (by simpa using hDR)
      have HO2 := Lib.hid (HOW.out.kept hg (own_neR HOW.out HL.out))
      have HD2 := Lib.hid (HDW.out.kept hg (own_neR HDW.out HL.out))
      have HG2 := Lib.hid (HGW.out.trans hg)
      have HR2 := Lib.hid hr
      have hz2 : D0 + 1 ≤ w2.heap.size := Nat.le_trans hzW hg.size
      clear hg hr e1 a0 a1 a2 fa HOW HDW HGW HRW r1
      by_cases hr0 : r = 0
      · have hq : (r == 0) = true := beq_iff_eq.2 hr0
        clear hr0
        have hgD : D0 ≠ g := by omega
        have NE0 : Hid ((Value.slice A' k c').ownBlock ≠ some D0) := Lib.hid (fun e => by have := NEO.out _ e; omega)
        have NED : Hid ((Value.slice (some ⟨g, 0, none⟩) ds.length c1).ownBlock ≠ some D0) := Lib.hid (by simp [Value.ownBlock]; omega)
        have HO3 : Hid ((((w2.setCell ⟨D0, 0, none⟩ (.string nm)).setCell ⟨D0, 1, none⟩ (.bool true)).setCell ⟨D0, 2, none⟩ (.int .i64 0)).ownsRow w.heap.size 103 3 (.slice A' k c') k (flatT ts)) := Lib.hid (own_setCell (own_setCell (own_setCell HO2.out NE0.out _) NE0.out _) NE0.out _)
        have HD3 : Hid ((((w2.setCell ⟨D0, 0, none⟩ (.string nm)).setCell ⟨D0, 1, none⟩ (.bool true)).setCell ⟨D0, 2, none⟩ (.int .i64 0)).ownsRow w.heap.size 108 2 (.slice (some ⟨g, 0, none⟩) ds.length c1) ds.length (flat ds)) := Lib.hid (own_setCell (own_setCell (own_setCell HD2.out NED.out _) NED.out _) NED.out _)
        have HG3 : Hid (w.grownBy (((w2.setCell ⟨D0, 0, none⟩ (.string nm)).setCell ⟨D0, 1, none⟩ (.bool true)).setCell ⟨D0, 2, none⟩ (.int .i64 0)) (some R)) := Lib.hid (grown_set (grown_set (grown_set HG2.out (by show w.heap.size ≤ D0; omega) _) (by show w.heap.size ≤ D0; omega) _) (by show w.heap.size ≤ D0; omega) _)
        have HR3 : Hid (Rdr (((w2.setCell ⟨D0, 0, none⟩ (.string nm)).setCell ⟨D0, 1, none⟩ (.bool true)).setCell ⟨D0, 2, none⟩ (.int .i64 0)) R B A cb zs (p' + 1)) := Lib.hid (((HR2.out.set (by show R < D0; omega) _).set (by show R < D0; omega) _).set (by show R < D0; omega) _)
        have hz3 : w.heap.size ≤ (((w2.setCell ⟨D0, 0, none⟩ (.string nm)).setCell ⟨D0, 1, none⟩ (.bool true)).setCell ⟨D0, 2, none⟩ (.int .i64 0)).heap.size := by simp only [World.size_setCell]; omega
        go_wp2_with (
          at_builtin
          refine wpList_app_T rfl _ _ rfl w.heap.size _ _ _ rfl HO3.out _ _ _ _ _ rfl (by first | rfl | simp) (by omega) (by omega) ?_
          intro v' w4 ho hg
          have HD4 := Lib.hid (HD3.out.kept hg (own_ne_type HD3.out HO3.out (by decide)))
          have HLT : Hid (∀ q, (Value.slice A' k c').ownBlock = some q → w.heap.size ≤ q) := Lib.hid (fun q hq => (HO3.out.lt q hq).1)
          have HG4 := Lib.hid (grown_rowO HG3.out hg HLT.out)
          have HR4 := Lib.hid (HR3.out.grown hg (fun e => by have := HLT.out R e.symm; have := HL.out; omega) (fun q hq => by have := HLT.out q hq; have := HR3.out.low; have := HL.out; omega))
          have HO4 := Lib.hid ho
          clear ho hg)
        go_roundw
        case rel => exact ⟨ts ++ [⟨nm, true, 0⟩], k + 1, p' + 1, by omega, by simp [htk], by go_num, by omega, Lib.hid (by intro x hx; rcases List.mem_append.1 hx with hx | hx; exact hts.out x hx; simp at hx; subst hx; exact ⟨HSK.out.1, by show (-5000 : Int) ≤ 0; decide, by show (0 : Int) ≤ 5000; decide⟩), Lib.hid (by have := HO4.out; simpa [flatT, encT] using this), HD4, HG4, HR4⟩
        case measure => simp [intOf]; omega
      · have hq : (r == 0) = false := beq_eq_false_iff_ne.2 hr0
        clear hr0
        go_wp2_with (
          at_builtin
          refine wpList_app_T rfl _ _ rfl w.heap.size _ _ _ rfl HO2.out _ _ _ _ _ rfl (by first | rfl | simp) (by omega) (by omega) ?_
          intro v' w4 ho hg
          have HD4 := Lib.hid (HD2.out.kept hg (own_ne_type HD2.out HO2.out (by decide)))
          have HLT : Hid (∀ q, (Value.slice A' k c').ownBlock = some q → w.heap.size ≤ q) := Lib.hid (fun q hq => (HO2.out.lt q hq).1)
          have HG4 := Lib.hid (grown_rowO HG2.out hg HLT.out)
          have HR4 := Lib.hid (HR2.out.grown hg (fun e => by have := HLT.out R e.symm; have := HL.out; omega) (fun q hq => by have := HLT.out q hq; have := HR2.out.low; have := HL.out; omega))
          have HO4 := Lib.hid ho
          clear ho hg)
        go_roundw
        case rel => exact ⟨ts ++ [⟨nm, false, vl⟩], k + 1, p' + 1, by omega, by simp [htk], by go_num, by omega, Lib.hid (by intro x hx; rcases List.mem_append.1 hx with hx | hx; exact hts.out x hx; simp at hx; subst hx; exact ⟨HSK.out.1, HSK.out.2⟩), Lib.hid (by have := HO4.out; simpa [flatT, encT] using this), HD4, HG4, HR4⟩
        case measure => simp [intOf]; omega
    · obtain rfl : k = ds.length := by omega
      clear hdef
      by_cases h0 : ds.length = 0
      · have h01 : ¬ (0 < (ds.length : Int)) := by omega
        clear h0
        go_wp2
        go_ret
        exact ⟨A', c', ts, p', by rw [htk]; rfl, by omega, hts.out, by rw [htk]; exact hown.out, by omega, hgr.out, hrd.out⟩
      · have h01 : (0 < (ds.length : Int)) := by omega
        obtain ⟨g, rfl, hbg, hgl⟩ := own_addr hown.out (by omega)
        have hgR : g ≠ R := by have := HL.out; omega
        go_wp2_with fail
        refine (pick_any 16 R B A cb zs p' _ hrd.out (by omega) (by omega) (by omega)).mono ?_
        rintro e w2 ⟨q, rfl, r0, r1, hg, hr⟩
        have HO2 := Lib.hid (hown.out.kept hg (own_neR hown.out HL.out))
        have HG2 := Lib.hid (hgr.out.trans hg)
        have HR2 := Lib.hid hr
        clear hg hr hown hgr hrd r1
        by_cases hq0 : q = 0
        · have hq : (q == 0) = true := beq_iff_eq.2 hq0
          clear hq0
          go_wp2_with fail
          refine (pick_any ds.length R B A cb zs (p' + 1) _ HR2.out (by omega) (by omega) (by omega)).mono ?_
          rintro e w3 ⟨j, rfl, j0, j1, hg, hr⟩
          replace j1 := j1 (by omega)
          obtain ⟨j, rfl⟩ := Int.eq_ofNat_of_zero_le j0
          have hj : j < ds.length := by omega
          have HO3 := Lib.hid (HO2.out.kept hg (own_neR HO2.out HL.out))
          have HG3 := Lib.hid (HG2.out.trans hg)
          have HR3 := Lib.hid hr
          clear hg hr HO2 HG2 HR2
          go_wp2_with fail
          refine (anyName_any R B A cb zs (p' + 1 + 1) _ HR3.out (by omega)).mono ?_
          rintro e w4 ⟨s, p4, rfl, hs, hp4, hg, hr⟩
          have HO4 := Lib.hid (HO3.out.kept hg (own_neR HO3.out HL.out))
          have HG4 := Lib.hid (HG3.out.trans hg)
          have HR4 := Lib.hid hr
          clear hg hr HO3 HG3 HR3
          go_wp2_with fail
          refine (pick_any 2 R B A cb zs p4 _ HR4.out (by omega) (by omega) (by omega)).mono ?_
          rintro e w5 ⟨u, rfl, u0, u1, hg, hr⟩
          have HO5 := Lib.hid (HO4.out.kept hg (own_neR HO4.out HL.out))
          have HG5 := Lib.hid (HG4.out.trans hg)
          have HR5 := Lib.hid hr
          have hz5 := hr.lt
          clear hg hr HO4 HG4 HR4 u1
          go_wp2_with fail
          refine (one_any (-5000) 5000 R B A cb zs (p4 + 1) w5.heap.size 4 4 _ (HR5.out.below ((Below.refl _ _).alloc (Nat.le_refl _) _)) (by omega) (by omega) (by omega) (by omega) (litI rfl rfl (by simp [allI]))).mono ?_
          rintro e w6 ⟨v, rfl, v0, v1, hg, hr⟩
          have HO6 := Lib.hid ((HO5.out.alloc _).kept hg (own_neR HO5.out HL.out))
          have HG6 : Hid (w.grownBy w6 (some R)) := Lib.hid ((HG5.out.trans (World.grownBy_alloc _ _ _)).trans hg)
          have HR6 := Lib.hid hr
          have hf1 := HO6.out.frozenAt (j * 3)
          have hf2 := HO6.out.frozenAt (j * 3 + 1)
          have hf3 := HO6.out.frozenAt (j * 3 + 2)
          obtain ⟨y1, hx1⟩ := own_cell HO6.out (j * 3) (by omega)
          obtain ⟨y2, hx2⟩ := own_cell HO6.out (j * 3 + 1) (by omega)
          obtain ⟨y3, hx3⟩ := own_cell HO6.out (j * 3 + 2) (by omega)
          clear hg hr HO5 HG5 HR5
          generalize hbu : (u == 0) = bu
          have hs1 := HO6.out.stored (j * 3) (.string s)
          have hs2 := hs1.1.stored (j * 3 + 1) (.bool bu)
          have hs3 := hs2.1.stored (j * 3 + 2) (.int .i64 v)
          have HF := Lib.hid (flatT_set ts j (by omega) ⟨s, bu, v⟩)
          have H3 := Lib.hid hs3.1
          clear hs1 hs2 hs3
          go_wp2
          go_ret
          refine ⟨_, c', ts.set j ⟨s, bu, v⟩, p4 + 1 + 1, by rw [List.length_set, htk]; rfl, by rw [List.length_set]; omega, ?_, ?_, by omega, ?_, ?_⟩
          · intro x hx
            rcases List.mem_or_eq_of_mem_set hx with h1 | rfl
            · exact hts.out x h1
            · exact ⟨hs, v0, v1⟩
          · rw [List.length_set, htk, ← HF.out]
            exact H3.out
          · exact grown_set (grown_set (grown_set HG6.out (by show w.heap.size ≤ g; omega) _) (by show w.heap.size ≤ g; omega) _) (by show w.heap.size ≤ g; omega) _
          · exact ((HR6.out.set (by show R < g; have := HL.out; omega) _).set (by show R < g; have := HL.out; omega) _).set (by show R < g; have := HL.out; omega) _
        · have hq : (q == 0) = false := beq_eq_false_iff_ne.2 hq0
          clear hq0
          go_wp2
          go_ret
          exact ⟨_, c', ts, p' + 1, by rw [htk]; rfl, by omega, hts.out, by rw [htk]; exact HO2.out, by omega, HG2.out, HR2.out⟩
/-- Drawn items and a bound. -/
def DrawTN (w : World) (e : Ending) (w' : World) : Prop :=
  ∃ (A : Option Addr) (c : Nat) (ts : List It) (b : Int), e = .returned (.tuple #[.slice A ts.length c, .int .i64 b]) ∧ ts.length ≤ 12 ∧ (∀ t ∈ ts, t.small) ∧ (-1 ≤ b ∧ b ≤ 4) ∧ ST w' w'.heap.size A ts.length c ts ∧ Below w.heap.size w w'
end Go.Proofs.YtiebdhbioccogaaGreatDoor

namespace Go.Proofs.YtiebdhbioccogaaGreatDoor
open Go.RowKit
set_option linter.unusedVariables false
set_option linter.unusedSimpArgs false
set_option maxRecDepth 100000


/-! ### texts of items -/
set_option maxHeartbeats 4000000 in
theorem itemLines_any (ts : List It) (A : Option Addr) (n c : Nat) (w : World) (hr : ST w w.heap.size A n c ts) (hsm : ∀ t ∈ ts, t.small) (hln : ts.length ≤ 12) :
    Calls Tryz.prog 58 #[.slice A n c] w fun e w' => ∃ t : ByteArray, e = .returned (.string t) ∧ t.size ≤ 2000 ∧ Below w.heap.size w w' := by
  obtain rfl := hr.len
  have hl := hr.max
  have hl2 := hr.cap
  unfold maxLen at hl
  have HR := Lib.hid hr
  have HSM := Lib.hid hsm
  clear hr hsm
  go_enter Tryz.func58, Tryz.ntmps58
  go_wp2
  go_loopw [3, 4] (fun s i wr => ∃ (k : Nat) (t : ByteArray), k ≤ ts.length ∧ i = .int .i64 k ∧ s = .string t ∧ t.size ≤ 120 * k ∧ Hid (Below w.heap.size w wr)) (fun _ i _ => ts.length - (intOf i).toNat)
  case atStart => exact ⟨0, ⟨#[]⟩, Nat.zero_le _, rfl, rfl, Nat.zero_le _, Lib.hid (Below.refl _ _)⟩
  case round =>
    obtain ⟨k, t, hk, rfl, rfl, htz, hbel⟩ := hrel
    have hk0 : (0 : Int) ≤ (k : Int) := by omega
    by_cases hlt : k < ts.length
    · obtain ⟨b, o, rfl, hb, c1, c2, c3⟩ := (HR.out.below hbel.out).at_ hlt
      have hi1 : (k : Int) < (ts.length : Int) := by omega
      obtain ⟨hn6, hv0, hv1⟩ := HSM.out _ (List.getElem_mem hlt)
      obtain ⟨u, hu⟩ : ∃ u, itoaB ts[k].val = u := ⟨_, rfl⟩
      have huz : u.size ≤ 6 := by rw [← hu]; exact itoaB_size hv0 hv1
      have HN := Lib.hid (fun w => signed_any ts[k].val w hv0 hv1 hu)
      clear hu
      generalize ts[k].name = s at *
      generalize ts[k].val = v at *
      generalize ts[k].auto = au at *
      have hz1 : (t ++ s).size ≤ 3000 := by rw [ByteArray.size_append]; omega
      have hz2 : ((t ++ s) ++ (⟨#[32, 61, 32]⟩ : ByteArray)).size ≤ 3010 := by rw [ByteArray.size_append]; show _ + 3 ≤ _; omega
      have hz3 : (((t ++ s) ++ (⟨#[32, 61, 32]⟩ : ByteArray)) ++ u).size ≤ 3020 := by rw [ByteArray.size_append]; omega
      have hy0 : (t ++ s).size ≤ 120 * k + 100 := by rw [ByteArray.size_append]; omega
      have hz4 : ((((t ++ s) ++ (⟨#[32, 61, 32]⟩ : ByteArray)) ++ u) ++ (⟨#[10]⟩ : ByteArray)).size ≤ 120 * (k + 1) := by
        rw [ByteArray.size_append, ByteArray.size_append, ByteArray.size_append]
        show _ + 3 + _ + 1 ≤ _
        omega
      have hz6 : ((t ++ s) ++ (⟨#[10]⟩ : ByteArray)).size ≤ 120 * (k + 1) := by
        rw [ByteArray.size_append]
        show _ + 1 ≤ _
        omega
      have hz5 : ((((t ++ s) ++ (⟨#[32, 61, 32]⟩ : ByteArray)) ++ u) ++ (⟨#[10]⟩ : ByteArray)).size ≤ 3030 := by omega
      have hz7 : ((t ++ s) ++ (⟨#[10]⟩ : ByteArray)).size ≤ 3030 := by omega
      cases au
      · go_wp2_with (go_at_call 102; refine (HN.out _).mono ?_; rintro e w6 ⟨rfl, rfl⟩)
        go_roundw
        case rel => exact ⟨k + 1, _, by omega, by go_num, rfl, hz4, hbel⟩
        case measure => simp [intOf]; omega
      · go_wp2
        go_roundw
        case rel => exact ⟨k + 1, _, by omega, by go_num, rfl, hz6, hbel⟩
        case measure => simp [intOf]; omega
    · obtain rfl : k = ts.length := by omega
      have hi9 : ¬ (ts.length : Int) < (ts.length : Int) := by omega
      go_wp2
      go_ret
      exact ⟨t, rfl, by omega, hbel.out⟩
/-- A drawn text. -/
def DrawTX (w : World) (e : Ending) (w' : World) : Prop := ∃ s : ByteArray, e = .returned (.string s) ∧ s.size ≤ 5000 ∧ Below w.heap.size w w'
end Go.Proofs.YtiebdhbioccogaaGreatDoor

namespace Go.Proofs.YtiebdhbioccogaaGreatDoor
open Go.RowKit
set_option linter.unusedVariables false
set_option linter.unusedSimpArgs false
set_option maxRecDepth 100000

theorem bws_small : ∀ {k : Nat} (hb : k < bws.length), bws[k].size ≤ 6
  | 0, _ => (by decide : (6 : Nat) ≤ 6)
  | 1, _ => (by decide : (3 : Nat) ≤ 6)
  | 2, _ => (by decide : (5 : Nat) ≤ 6)
  | 3, _ => (by decide : (4 : Nat) ≤ 6)
  | k + 4, h => absurd h (show ¬ k + 4 < 4 by omega)
theorem rdr_no_text {w : World} {R B : Nat} {A : Option Addr} {cb : Nat} {zs : List Int} {p : Nat} (h : Rdr w R B A cb zs p) {b o : Nat} {s : ByteArray} (hc : w.cell? ⟨b, o, none⟩ = some (.string s)) : b ≠ R := by
  intro e
  subst e
  have hb := h.blk
  unfold World.cell? at hc
  simp only [hb] at hc
  match o, hc with
  | 0, hc => simp [go_sem] at hc
  | 1, hc => simp [go_sem] at hc
  | o + 2, hc => simp [go_sem] at hc
theorem boundWords_R (R B : Nat) (A : Option Addr) (cb : Nat) (zs : List Int) (p : Nat) (w : World) (h : Rdr w R B A cb zs p) : Calls Tryz.prog 57 #[] w fun e w' => ∃ (b o c : Nat), e = .returned (.slice (some ⟨b, o, none⟩) 4 c) ∧ b ≠ R ∧ (∀ k (hk : k < bws.length), w'.cell? ⟨b, o + k, none⟩ = some (.string bws[k])) ∧ Rdr w' R B A cb zs p ∧ w.grownBy w' (some R) := by
  refine (boundWords_v w).mono ?_
  rintro e w' ⟨A', c, rfl, hss, hb⟩
  have hr := h.below hb
  obtain ⟨b, o, rfl, hbb, h0⟩ := hss.at_ (k := 0) (by decide)
  refine ⟨b, o, c, rfl, rdr_no_text hr h0, fun k hk => ?_, hr, grown_of_below hb _⟩
  obtain ⟨b2, o2, hA, _, hc⟩ := hss.at_ hk
  injection hA with e
  injection e with e1 e2
  subst e1 e2
  exact hc
def FlTP (R B : Nat) (A : Option Addr) (cb : Nat) (zs : List Int) (p : Nat) (w : World) (e : Ending) (w' : World) : Prop :=
  ∃ (s : ByteArray) (p' : Nat), e = .returned (.string s) ∧ s.size ≤ 3000 ∧ p' ≤ p + 200 ∧ w.grownBy w' (some R) ∧ Rdr w' R B A cb zs p'
set_option maxHeartbeats 8000000 in
theorem flagText_any (R B : Nat) (A : Option Addr) (cb : Nat) (zs : List Int) (p : Nat) (w : World) (h : Rdr w R B A cb zs p) (hp : p + 200 ≤ 100000) :
    Calls Tryz.prog 19 #[.pointer (some ⟨R, 0, none⟩)] w (FlTP R B A cb zs p w) := by
  have HR := Lib.hid h
  clear h
  go_enter Tryz.func19, Tryz.ntmps19
  go_wp2_with fail
  refine wp_region_held_drew (S := fun w' => True) (by kernel_rfl) trivial (fun hHeld => ?_)
  generalize hwd : w.drew = w1 at hHeld ⊢
  have HR1 : Hid (Rdr w1 R B A cb zs p) := Lib.hid (by rw [← hwd]; exact HR.out.drewN 1)
  have HG1 : Hid (w.grownBy w1 (some R)) := Lib.hid (by rw [← hwd]; exact grown_of_below (Below.refl _ _).drew _)
  clear hwd HR
  refine wpAnyH_take (i := 1) (v := ?_) rfl (by kernel_rfl) (by kernel_rfl) (by kernel_rfl) (fun _ _ _ h => h) (Or.inl ⟨by kernel_rfl, ?_⟩) hHeld ?_
  rotate_left
  · intro wz hSw
    first
    | (go_simp; done)
    | (go_simp; with_reducible rfl)
    | (go_simp; omega)
  try simp only [Act.put, List.setIfInBounds_toArray, List.set_cons_zero, List.set_cons_succ]
  refine wpAnyH_take (i := 7) (v := ?_) rfl (by kernel_rfl) (by kernel_rfl) (by kernel_rfl) (fun _ _ _ h => h) (Or.inl ⟨by kernel_rfl, ?_⟩) hHeld ?_
  rotate_left
  · intro wz hSw
    first
    | (go_simp; done)
    | (go_simp; with_reducible rfl)
    | (go_simp; omega)
  try simp only [Act.put, List.setIfInBounds_toArray, List.set_cons_zero, List.set_cons_succ]
  refine wpAnyH_ready (rs := [0]) (by kernel_rfl) (by simp) ?_
  refine AllReadyH.cons rfl (fun K hK => ?_) AllReadyH.nil
  go_simp
  refine (boundWords_R R B A cb zs p w1 HR1.out).mono ?_
  rintro e w2 ⟨g, o, c, rfl, hgR, hcs, hr, hg⟩
  have HR2 := Lib.hid hr
  have HC2 := Lib.hid hcs
  have HG2 : Hid (w.grownBy w2 (some R)) := Lib.hid (HG1.out.trans hg)
  clear hr hg hcs HR1 HG1
  go_simp
  refine hK.out _ _ trivial (fun hHeld => ?_)
  clear hK K
  try simp only [Act.put, List.setIfInBounds_toArray, List.set_cons_zero, List.set_cons_succ]
  refine wpAnyH_ready (rs := [2]) (by kernel_rfl) (by simp) ?_
  refine AllReadyH.cons rfl (fun K hK => ?_) AllReadyH.nil
  go_simp
  refine (pick_any 4 R B A cb zs _ _ HR2.out (by omega) (by omega) (by omega)).mono ?_
  rintro e w3 ⟨b, rfl, b0, b1, hg, hr⟩
  have b2 := b1 (by omega)
  obtain ⟨j, rfl⟩ : ∃ j : Nat, b = (j : Int) := ⟨b.toNat, by omega⟩
  have hj4 : j < bws.length := by show j < 4; omega
  have xw3 := hg.cell (HC2.out j hj4) (fun e => by have e2 := Option.some.inj e; exact hgR e2)
  have hus := bws_small hj4
  generalize (bws[j]'hj4) = u at *
  have hz1 : ((⟨#[102, 108, 97, 103, 32]⟩ : ByteArray) ++ u).size ≤ 11 := by rw [ByteArray.size_append]; show 5 + _ ≤ 11; omega
  have hz2 : (((⟨#[102, 108, 97, 103, 32]⟩ : ByteArray) ++ u) ++ (⟨#[10]⟩ : ByteArray)).size ≤ 12 := by rw [ByteArray.size_append]; show _ + 1 ≤ 12; omega
  have HR3 := Lib.hid hr
  have HG3 : Hid (w.grownBy w3 (some R)) := Lib.hid (HG2.out.trans hg)
  have hji : (j : Int) < 4 := by omega
  clear hr hg HR2 HG2 HC2 b1 hj4
  go_simp
  refine hK.out _ _ trivial (fun hHeld => ?_)
  clear hK K
  try simp only [Act.put, List.setIfInBounds_toArray, List.set_cons_zero, List.set_cons_succ]
  refine wpAnyH_take (i := 3) (v := ?_) rfl (by kernel_rfl) (by kernel_rfl) (by kernel_rfl) (fun _ _ _ h => h) (Or.inl ⟨by kernel_rfl, ?_⟩) hHeld ?_
  rotate_left
  · intro wz hSw
    first
    | (go_simp; done)
    | (go_simp; with_reducible rfl)
    | (go_simp; omega)
  try simp only [Act.put, List.setIfInBounds_toArray, List.set_cons_zero, List.set_cons_succ]
  refine wpAnyH_ready (rs := [4, 8]) (by kernel_rfl) (by simp) ?_
  refine AllReadyH.cons rfl (fun K hK => ?_) (AllReadyH.cons rfl (fun K hK => ?_) AllReadyH.nil)
  · skip
    go_simp
    refine hK.out _ _ trivial (fun hHeld => ?_)
    clear hK K
    try simp only [Act.put, List.setIfInBounds_toArray, List.set_cons_zero, List.set_cons_succ]
    refine wpAnyH_take (i := 5) (v := .string ((⟨#[102, 108, 97, 103, 32]⟩ : ByteArray) ++ u)) rfl (by kernel_rfl) (by kernel_rfl) (by kernel_rfl) (fun _ _ _ h => h) (Or.inl ⟨by kernel_rfl, ?_⟩) hHeld ?_
    · intro wz hSw
      first
      | (go_simp; done)
      | (go_simp; with_reducible rfl)
      | (go_simp; omega)
    try simp only [Act.put, List.setIfInBounds_toArray, List.set_cons_zero, List.set_cons_succ]
    refine wpAnyH_take (i := 6) (v := .string (((⟨#[102, 108, 97, 103, 32]⟩ : ByteArray) ++ u) ++ (⟨#[10]⟩ : ByteArray))) rfl (by kernel_rfl) (by kernel_rfl) (by kernel_rfl) (fun _ _ _ h => h) (Or.inl ⟨by kernel_rfl, ?_⟩) hHeld ?_
    · intro wz hSw
      first
      | (go_simp; done)
      | (go_simp; with_reducible rfl)
      | (go_simp; omega)
    try simp only [Act.put, List.setIfInBounds_toArray, List.set_cons_zero, List.set_cons_succ]
    refine wpAnyH_ready (rs := [8]) (by kernel_rfl) (by simp) ?_
    refine AllReadyH.cons rfl (fun K hK => ?_) AllReadyH.nil
    go_simp
    refine (someItemsF_any R B A cb zs _ _ HR3.out (by omega)).mono ?_
    rintro e w4 ⟨A', c', ts, p', rfl, hn, hsm, hown, hp', hg, hr⟩
    have xw4 := hg.cell xw3 (fun e => by have e2 := Option.some.inj e; exact hgR e2)
    have HG4 : Hid (w.grownBy w4 (some R)) := Lib.hid (HG3.out.trans hg)
    have HR4 := Lib.hid hr
    have HO4 := Lib.hid hown
    have HSM := Lib.hid hsm
    clear hg hr hown hsm
    go_simp
    refine hK.out _ _ trivial (fun hHeld => ?_)
    clear hK K
    try simp only [Act.put, List.setIfInBounds_toArray, List.set_cons_zero, List.set_cons_succ]
    refine wpAnyH_ready (rs := [9]) (by kernel_rfl) (by simp) ?_
    refine AllReadyH.cons rfl (fun K hK => ?_) AllReadyH.nil
    go_simp
    refine (itemLines_any ts A' _ c' _ (st_of_own HO4.out (fun t ht => It.small_ok (HSM.out t ht))) HSM.out hn).mono ?_
    rintro e w5 ⟨t, rfl, ht, hb⟩
    have xw5 := keep1 hb xw4
    have HG5 : Hid (w.grownBy w5 (some R)) := Lib.hid (HG4.out.trans (grown_of_below hb _))
    have HR5 := Lib.hid (HR4.out.below hb)
    clear hb
    have hz3 : ((((⟨#[102, 108, 97, 103, 32]⟩ : ByteArray) ++ u) ++ (⟨#[10]⟩ : ByteArray)) ++ t).size ≤ 2100 := by rw [ByteArray.size_append]; omega
    go_simp
    refine hK.out _ _ trivial (fun hHeld => ?_)
    clear hK K
    try simp only [Act.put, List.setIfInBounds_toArray, List.set_cons_zero, List.set_cons_succ]
    refine wpAnyH_take (i := 10) (v := .string ((((⟨#[102, 108, 97, 103, 32]⟩ : ByteArray) ++ u) ++ (⟨#[10]⟩ : ByteArray)) ++ t)) rfl (by kernel_rfl) (by kernel_rfl) (by kernel_rfl) (fun _ _ _ h => h) (Or.inl ⟨by kernel_rfl, ?_⟩) hHeld ?_
    · intro wz hSw
      first
      | (go_simp; done)
      | (go_simp; with_reducible rfl)
      | (go_simp; omega)
    try simp only [Act.put, List.setIfInBounds_toArray, List.set_cons_zero, List.set_cons_succ]
    refine wpAnyH_take (i := 11) (v := ?_) rfl (by kernel_rfl) (by kernel_rfl) (by kernel_rfl) (fun _ _ _ h => h) (Or.inl ⟨by kernel_rfl, ?_⟩) hHeld ?_
    rotate_left
    · intro wz hSw
      first
      | (go_simp; done)
      | (go_simp; with_reducible rfl)
      | (go_simp; omega)
    try simp only [Act.put, List.setIfInBounds_toArray, List.set_cons_zero, List.set_cons_succ]
    refine wpAnyH_done (by kernel_rfl) ?_ _
    try go_simp
    go_wp2
    go_ret
    exact ⟨_, p', rfl, by omega, by omega, HG5.out, HR5.out⟩
  · skip
    go_simp
    refine (someItemsF_any R B A cb zs _ _ HR3.out (by omega)).mono ?_
    rintro e w4 ⟨A', c', ts, p', rfl, hn, hsm, hown, hp', hg, hr⟩
    have xw4 := hg.cell xw3 (fun e => by have e2 := Option.some.inj e; exact hgR e2)
    have HG4 : Hid (w.grownBy w4 (some R)) := Lib.hid (HG3.out.trans hg)
    have HR4 := Lib.hid hr
    have HO4 := Lib.hid hown
    have HSM := Lib.hid hsm
    clear hg hr hown hsm
    go_simp
    refine hK.out _ _ trivial (fun hHeld => ?_)
    clear hK K
    try simp only [Act.put, List.setIfInBounds_toArray, List.set_cons_zero, List.set_cons_succ]
    refine wpAnyH_ready (rs := [4, 9]) (by kernel_rfl) (by simp) ?_
    refine AllReadyH.cons rfl (fun K hK => ?_) (AllReadyH.cons rfl (fun K hK => ?_) AllReadyH.nil)
    · skip
      go_simp
      refine hK.out _ _ trivial (fun hHeld => ?_)
      clear hK K
      try simp only [Act.put, List.setIfInBounds_toArray, List.set_cons_zero, List.set_cons_succ]
      refine wpAnyH_take (i := 5) (v := .string ((⟨#[102, 108, 97, 103, 32]⟩ : ByteArray) ++ u)) rfl (by kernel_rfl) (by kernel_rfl) (by kernel_rfl) (fun _ _ _ h => h) (Or.inl ⟨by kernel_rfl, ?_⟩) hHeld ?_
      · intro wz hSw
        first
        | (go_simp; done)
        | (go_simp; with_reducible rfl)
        | (go_simp; omega)
      try simp only [Act.put, List.setIfInBounds_toArray, List.set_cons_zero, List.set_cons_succ]
      refine wpAnyH_take (i := 6) (v := .string (((⟨#[102, 108, 97, 103, 32]⟩ : ByteArray) ++ u) ++ (⟨#[10]⟩ : ByteArray))) rfl (by kernel_rfl) (by kernel_rfl) (by kernel_rfl) (fun _ _ _ h => h) (Or.inl ⟨by kernel_rfl, ?_⟩) hHeld ?_
      · intro wz hSw
        first
        | (go_simp; done)
        | (go_simp; with_reducible rfl)
        | (go_simp; omega)
      try simp only [Act.put, List.setIfInBounds_toArray, List.set_cons_zero, List.set_cons_succ]
      refine wpAnyH_ready (rs := [9]) (by kernel_rfl) (by simp) ?_
      refine AllReadyH.cons rfl (fun K hK => ?_) AllReadyH.nil
      go_simp
      refine (itemLines_any ts A' _ c' _ (st_of_own HO4.out (fun t ht => It.small_ok (HSM.out t ht))) HSM.out hn).mono ?_
      rintro e w5 ⟨t, rfl, ht, hb⟩
      have xw5 := keep1 hb xw4
      have HG5 : Hid (w.grownBy w5 (some R)) := Lib.hid (HG4.out.trans (grown_of_below hb _))
      have HR5 := Lib.hid (HR4.out.below hb)
      clear hb
      have hz3 : ((((⟨#[102, 108, 97, 103, 32]⟩ : ByteArray) ++ u) ++ (⟨#[10]⟩ : ByteArray)) ++ t).size ≤ 2100 := by rw [ByteArray.size_append]; omega
      go_simp
      refine hK.out _ _ trivial (fun hHeld => ?_)
      clear hK K
      try simp only [Act.put, List.setIfInBounds_toArray, List.set_cons_zero, List.set_cons_succ]
      refine wpAnyH_take (i := 10) (v := .string ((((⟨#[102, 108, 97, 103, 32]⟩ : ByteArray) ++ u) ++ (⟨#[10]⟩ : ByteArray)) ++ t)) rfl (by kernel_rfl) (by kernel_rfl) (by kernel_rfl) (fun _ _ _ h => h) (Or.inl ⟨by kernel_rfl, ?_⟩) hHeld ?_
      · intro wz hSw
        first
        | (go_simp; done)
        | (go_simp; with_reducible rfl)
        | (go_simp; omega)
      try simp only [Act.put, List.setIfInBounds_toArray, List.set_cons_zero, List.set_cons_succ]
      refine wpAnyH_take (i := 11) (v := ?_) rfl (by kernel_rfl) (by kernel_rfl) (by kernel_rfl) (fun _ _ _ h => h) (Or.inl ⟨by kernel_rfl, ?_⟩) hHeld ?_
      rotate_left
      · intro wz hSw
        first
        | (go_simp; done)
        | (go_simp; with_reducible rfl)
        | (go_simp; omega)
      try simp only [Act.put, List.setIfInBounds_toArray, List.set_cons_zero, List.set_cons_succ]
      refine wpAnyH_done (by kernel_rfl) ?_ _
      try go_simp
      go_wp2
      go_ret
      exact ⟨_, p', rfl, by omega, by omega, HG5.out, HR5.out⟩
    · skip
      go_simp
      refine (itemLines_any ts A' _ c' _ (st_of_own HO4.out (fun t ht => It.small_ok (HSM.out t ht))) HSM.out hn).mono ?_
      rintro e w5 ⟨t, rfl, ht, hb⟩
      have xw5 := keep1 hb xw4
      have HG5 : Hid (w.grownBy w5 (some R)) := Lib.hid (HG4.out.trans (grown_of_below hb _))
      have HR5 := Lib.hid (HR4.out.below hb)
      clear hb
      have hz3 : ((((⟨#[102, 108, 97, 103, 32]⟩ : ByteArray) ++ u) ++ (⟨#[10]⟩ : ByteArray)) ++ t).size ≤ 2100 := by rw [ByteArray.size_append]; omega
      go_simp
      refine hK.out _ _ trivial (fun hHeld => ?_)
      clear hK K
      try simp only [Act.put, List.setIfInBounds_toArray, List.set_cons_zero, List.set_cons_succ]
      refine wpAnyH_ready (rs := [4]) (by kernel_rfl) (by simp) ?_
      refine AllReadyH.cons rfl (fun K hK => ?_) AllReadyH.nil
      go_simp
      refine hK.out _ _ trivial (fun hHeld => ?_)
      clear hK K
      try simp only [Act.put, List.setIfInBounds_toArray, List.set_cons_zero, List.set_cons_succ]
      refine wpAnyH_take (i := 5) (v := .string ((⟨#[102, 108, 97, 103, 32]⟩ : ByteArray) ++ u)) rfl (by kernel_rfl) (by kernel_rfl) (by kernel_rfl) (fun _ _ _ h => h) (Or.inl ⟨by kernel_rfl, ?_⟩) hHeld ?_
      · intro wz hSw
        first
        | (go_simp; done)
        | (go_simp; with_reducible rfl)
        | (go_simp; omega)
      try simp only [Act.put, List.setIfInBounds_toArray, List.set_cons_zero, List.set_cons_succ]
      refine wpAnyH_take (i := 6) (v := .string (((⟨#[102, 108, 97, 103, 32]⟩ : ByteArray) ++ u) ++ (⟨#[10]⟩ : ByteArray))) rfl (by kernel_rfl) (by kernel_rfl) (by kernel_rfl) (fun _ _ _ h => h) (Or.inl ⟨by kernel_rfl, ?_⟩) hHeld ?_
      · intro wz hSw
        first
        | (go_simp; done)
        | (go_simp; with_reducible rfl)
        | (go_simp; omega)
      try simp only [Act.put, List.setIfInBounds_toArray, List.set_cons_zero, List.set_cons_succ]
      refine wpAnyH_take (i := 10) (v := .string ((((⟨#[102, 108, 97, 103, 32]⟩ : ByteArray) ++ u) ++ (⟨#[10]⟩ : ByteArray)) ++ t)) rfl (by kernel_rfl) (by kernel_rfl) (by kernel_rfl) (fun _ _ _ h => h) (Or.inl ⟨by kernel_rfl, ?_⟩) hHeld ?_
      · intro wz hSw
        first
        | (go_simp; done)
        | (go_simp; with_reducible rfl)
        | (go_simp; omega)
      try simp only [Act.put, List.setIfInBounds_toArray, List.set_cons_zero, List.set_cons_succ]
      refine wpAnyH_take (i := 11) (v := ?_) rfl (by kernel_rfl) (by kernel_rfl) (by kernel_rfl) (fun _ _ _ h => h) (Or.inl ⟨by kernel_rfl, ?_⟩) hHeld ?_
      rotate_left
      · intro wz hSw
        first
        | (go_simp; done)
        | (go_simp; with_reducible rfl)
        | (go_simp; omega)
      try simp only [Act.put, List.setIfInBounds_toArray, List.set_cons_zero, List.set_cons_succ]
      refine wpAnyH_done (by kernel_rfl) ?_ _
      try go_simp
      go_wp2
      go_ret
      exact ⟨_, p', rfl, by omega, by omega, HG5.out, HR5.out⟩
end Go.Proofs.YtiebdhbioccogaaGreatDoor

