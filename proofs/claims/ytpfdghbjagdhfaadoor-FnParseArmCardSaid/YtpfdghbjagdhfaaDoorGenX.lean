import Derived.Test.YtpfdghbjagdhfaaDoorGenV
import Derived.Test.YtpfdghbjagdhfaaDoorArmS
namespace Go.Proofs.YtpfdghbjagdhfaaDoor
open Go.RowKit
set_option linter.unusedVariables false
set_option linter.unusedSimpArgs false
set_option maxRecDepth 100000

/-- A drawn arm, and the reader behind it. -/
def DrawnA (q R B : Nat) (A : Option Addr) (cb : Nat) (zs : List Int) (p : Nat) (w : World) (e : Ending) (w' : World) : Prop :=
  ∃ (x y : Int) (p' : Nat), e = .returned (.agg #[.int .i64 x, .int .i64 y]) ∧ (-60000 ≤ x ∧ x ≤ 60000) ∧ (-60000 ≤ y ∧ y ≤ 60000) ∧ p' ≤ p + q ∧ w.grownBy w' (some R) ∧ Rdr w' R B A cb zs p'
set_option maxHeartbeats 8000000 in
theorem anArm_any (R B : Nat) (A : Option Addr) (cb : Nat) (zs : List Int) (p : Nat) (ds : List D) (b : Int) (Af : Option Addr) (nf cf base : Nat) (w : World) (h : Rdr w R B A cb zs p) (hp : p + 20 ≤ 100000)
    (ho : w.ownsRow base 98 2 (.slice Af nf cf) nf (flat ds)) (hok : ∀ d ∈ ds, d.small) :
    Calls Tryd.prog 79 #[.pointer (some ⟨R, 0, none⟩), .agg #[.slice Af nf cf, .int .i64 b]] w (DrawnA 12 R B A cb zs p w) := by
  have hRw := h.lt
  have hwR : w.heap.size ≠ R := by omega
  obtain ⟨w1, hw⟩ : ∃ W : World, W = ((w.alloc (.cells #[.slice Af nf cf, .int .i64 b] 32)).alloc (.cells #[.int .i64 0, .int .i64 0] 27)).alloc (.cells #[.int .i64 0, .int .i64 0] 27) := ⟨_, rfl⟩
  have hb : Below w.heap.size w w1 := by rw [hw]; exact (((Below.refl _ _).alloc (Nat.le_refl _) _).alloc (by simp) _).alloc (by simp; omega) _
  have hz1 : w1.heap.size = w.heap.size + 1 + 1 + 1 := by rw [hw]; simp
  have HC1 : Hid (C2 w1 (w.heap.size + 1) (.int .i64 0) (.int .i64 0)) := Lib.hid (by rw [hw]; exact (c2New' _ _ _ _ _).below ((Below.refl _ _).alloc (Nat.le_refl _) _))
  have HD1 : Hid (C2 w1 (w.heap.size + 1 + 1) (.int .i64 0) (.int .i64 0)) := Lib.hid (by rw [hw]; have := c2New ((w.alloc (.cells #[.slice Af nf cf, .int .i64 b] 32)).alloc (.cells #[.int .i64 0, .int .i64 0] 27)) (.int .i64 0) (.int .i64 0) 27; simpa using this)
  have HS1 := Lib.hid (sd_of_own (own_below ho hb) (fun d hd => small_ok (hok d hd)))
  have HR1 := Lib.hid (h.below hb)
  have HG1 : Hid (w.grownBy w1 (some R)) := Lib.hid (grown_of_below hb _)
  have HW := Lib.hid hw.symm
  have HSG : Hid (∀ d ∈ mSg ds, d.small) := Lib.hid fun d hd => hok d (sgTo_in hd).1
  have hes := mSg_len ds
  have HCALL := Lib.hid (singles_any ds Af nf cf w1 HS1.out)
  clear hb hw h ho hok HS1
  generalize mSg ds = es at *
  go_enter Tryd.func79, Tryd.ntmps79
  go_wp2_with fail
  rw [HW.out]
  clear HW
  refine (HCALL.out).mono ?_
  clear HCALL
  rintro e w2 ⟨A1, c1, rfl, hown, hb⟩
  have HO2 := Lib.hid hown
  have HC2 := Lib.hid (HC1.out.below hb)
  have HD2 := Lib.hid (HD1.out.below hb)
  have HR2 := Lib.hid (HR1.out.below hb)
  have HG2 : Hid (w.grownBy w2 (some R)) := Lib.hid (HG1.out.trans (grown_of_below hb _))
  have hz2 : w.heap.size + 1 + 1 + 1 ≤ w2.heap.size := by have := hb.size; omega
  have hRo : R < w1.heap.size := by omega
  clear hown hb HC1 HD1 HR1 HG1
  generalize hg1 : w.heap.size + 1 = G1 at *
  generalize hg2 : G1 + 1 = G2 at *
  have n1 : G1 ≠ R := by omega
  have n2 : G2 ≠ R := by omega
  have n3 : G1 ≠ G2 := by omega
  have n4 : G2 ≠ G1 := by omega
  have n5 : w.heap.size ≤ G2 := by omega
  have n6 : w.heap.size ≤ G1 := by omega
  have n7 : R < G2 := by omega
  have n8 : G2 < w1.heap.size := by omega
  go_wp2_with fail
  go_loopw [7] (fun i wr => ∃ (k p' : Nat) (x y : Int), i = .int .i64 k ∧ k ≤ es.length ∧ p' ≤ p + k ∧ (-5000 * k ≤ x ∧ x ≤ 5000 * k) ∧ (-5000 * k ≤ y ∧ y ≤ 5000 * k) ∧ Hid (C2 wr G1 (.int .i64 0) (.int .i64 0)) ∧ Hid (C2 wr G2 (.int .i64 x) (.int .i64 y)) ∧ Hid (wr.ownsRow w1.heap.size 98 2 (.slice A1 es.length c1) es.length (flat es)) ∧ Hid (w.grownBy wr (some R)) ∧ Hid (Rdr wr R B A cb zs p')) (fun i _ => es.length - (intOf i).toNat)
  case atStart => exact ⟨0, p, 0, 0, rfl, Nat.zero_le _, by omega, by omega, by omega, HC2, HD2, HO2, HG2, HR2⟩
  case round =>
    obtain ⟨k, p', x, y, rfl, hk, hp', hx, hy, hc, hd, hown, hgr, hrd⟩ := hrel
    clear HO2 HC2 HD2 HG2 HR2
    by_cases hlt : k < es.length
    · obtain ⟨g, rfl, hbg, hgl⟩ := own_addr hown.out (by omega)
      have d2 : wr.cell? ⟨g, k * 2 + 1, none⟩ = some (.int .i64 es[k].val) := by rw [hown.out.cellAt (k * 2 + 1) (by omega)]; exact (flat_get es k hlt).2
      have HSK : Hid (-5000 ≤ es[k].val ∧ es[k].val ≤ 5000) := Lib.hid (HSG.out _ (List.getElem_mem hlt)).2
      generalize es[k].val = vl at *
      have hi1 : (k : Int) < (es.length : Int) := by omega
      have hi0 : (0 : Int) ≤ (k : Int) := by omega
      have HD2 := Lib.hid d2
      have hgR : g ≠ R := by omega
      have hgG : G2 ≠ g := by omega
      clear d2
      go_wp2_with fail
      refine (pick_any 4 R B A cb zs p' _ hrd.out (by omega) (by omega) (by omega)).mono ?_
      rintro e w3 ⟨q, rfl, qa, qb, hg, hr⟩
      have HC3 := Lib.hid (hc.out.grown hg (by simpa using n1))
      have HA3 := Lib.hid (hd.out.grown hg (by simpa using n2))
      have HO3 := Lib.hid (hown.out.kept hg (own_neR hown.out hRo))
      have HV3 := Lib.hid (hg.cell HD2.out (by simpa using hgR))
      have HG3 : Hid (w.grownBy w3 (some R)) := Lib.hid (hgr.out.trans hg)
      have HR3 := Lib.hid hr
      clear hg hr qb hc hd hown hgr hrd HD2
      obtain ⟨a0, a1, f0, f1⟩ := HA3.out
      have v3 := HV3.out
      by_cases h0 : q = 0
      · subst h0
        have hwr : IntKind.i64.wrap (x + vl) = x + vl := by have := HSK.out; rw [IntKind.wrap_i64]; omega
        go_wp2_with fail
        go_region
        all_goals
          go_wp2
          go_roundw
          case rel =>
            have hv := HSK.out
            refine ⟨k + 1, p' + 1, x + vl, y, by go_num, by omega, by omega, by omega, by omega, Lib.hid ?_, Lib.hid ?_, Lib.hid ?_, Lib.hid ?_, Lib.hid ?_⟩
            · exact (HC3.out.setO (by exact n4) _).below (Below.refl _ _).drew
            · exact (HA3.out.set0 _).below (Below.refl _ _).drew
            · exact own_below (own_setCell HO3.out (by simp [Value.ownBlock]; exact fun e => hgG e.symm) _) (Below.refl _ _).drew
            · exact grown_drew (grown_set HG3.out (by exact n5) _)
            · exact (HR3.out.set (by exact n7) _).drew1
          case measure => simp [intOf]; omega
      · have e0 : (q == 0) = false := by rw [beq_eq_false_iff_ne]; exact h0
        by_cases h1 : q = 1
        · subst h1
          have hwr : IntKind.i64.wrap (y + vl) = y + vl := by have := HSK.out; rw [IntKind.wrap_i64]; omega
          go_wp2_with fail
          go_region
          all_goals
            go_wp2
            go_roundw
            case rel =>
              have hv := HSK.out
              refine ⟨k + 1, p' + 1, x, y + vl, by go_num, by omega, by omega, by omega, by omega, Lib.hid ?_, Lib.hid ?_, Lib.hid ?_, Lib.hid ?_, Lib.hid ?_⟩
              · exact (HC3.out.setO (by exact n4) _).below (Below.refl _ _).drew
              · exact (HA3.out.set1 _).below (Below.refl _ _).drew
              · exact own_below (own_setCell HO3.out (by simp [Value.ownBlock]; exact fun e => hgG e.symm) _) (Below.refl _ _).drew
              · exact grown_drew (grown_set HG3.out (by exact n5) _)
              · exact (HR3.out.set (by exact n7) _).drew1
            case measure => simp [intOf]; omega

        · have e1 : (q == 1) = false := by rw [beq_eq_false_iff_ne]; exact h1
          go_wp2
          go_roundw
          case rel => exact ⟨k + 1, p' + 1, x, y, by go_num, by omega, by omega, by omega, by omega, HC3, HA3, HO3, HG3, HR3⟩
          case measure => simp [intOf]; omega
    · obtain rfl : k = es.length := by omega
      obtain ⟨a0, a1, f0, f1⟩ := hd.out
      obtain ⟨b0, b1, g0, g1⟩ := hc.out
      go_wp2
      refine bodyPost_ret (v := .agg #[.int .i64 x, .int .i64 y]) (by simp [results, Tryd.results79, go_sem, b0, b1, n3, n4]) rfl ⟨x, y, p', rfl, by omega, by omega, by omega, ?_, ?_⟩
      · exact grown_set (grown_set hgr.out (by exact n6) _) (by exact n6) _
      · exact (hrd.out.set (by show R < G1; omega) _).set (by show R < G1; omega) _
set_option maxHeartbeats 8000000 in
theorem someArm_any (R B : Nat) (A : Option Addr) (cb : Nat) (zs : List Int) (p : Nat) (ds : List D) (b : Int) (Af : Option Addr) (nf cf base : Nat) (w : World) (h : Rdr w R B A cb zs p) (hp : p + 20 ≤ 100000)
    (ho : w.ownsRow base 98 2 (.slice Af nf cf) nf (flat ds)) (hok : ∀ d ∈ ds, d.small) (hRb : R < base) :
    Calls Tryd.prog 122 #[.pointer (some ⟨R, 0, none⟩), .agg #[.slice Af nf cf, .int .i64 b]] w (DrawnA 15 R B A cb zs p w) := by
  have hRw := h.lt
  have HOK := Lib.hid hok
  obtain ⟨w1, hw⟩ : ∃ W : World, W = ((w.alloc (.cells #[.slice Af nf cf, .int .i64 b] 32)).alloc (.cells #[.int .i64 0, .int .i64 0] 27)) := ⟨_, rfl⟩
  have hb : Below w.heap.size w w1 := by rw [hw]; exact ((Below.refl _ _).alloc (Nat.le_refl _) _).alloc (by simp) _
  have hz1 : w1.heap.size = w.heap.size + 1 + 1 := by rw [hw]; simp
  have HF1 : Hid (C2 w1 w.heap.size (.slice Af nf cf) (.int .i64 b)) := Lib.hid (by rw [hw]; exact (c2New _ _ _ _).below ((Below.refl _ _).alloc (Nat.le_refl _) _))
  have HC1 : Hid (C2 w1 (w.heap.size + 1) (.int .i64 0) (.int .i64 0)) := Lib.hid (by rw [hw]; exact c2New' _ _ _ _ _)
  have HO1 := Lib.hid (own_below ho hb)
  have HR1 := Lib.hid (h.below hb)
  have HG1 : Hid (w.grownBy w1 (some R)) := Lib.hid (grown_of_below hb _)
  have HW := Lib.hid hw.symm
  clear hb hw h ho hok
  obtain ⟨F0, hF0⟩ : ∃ F0, w.heap.size = F0 := ⟨_, rfl⟩
  go_enter Tryd.func122, Tryd.ntmps122
  have q0 := HF1.out.c0
  have q1 := HF1.out.c1
  rw [← HW.out] at q0 q1
  go_wp2_with fail
  clear q0 q1
  rw [HW.out]
  clear HW
  refine (anArm_any R B A cb zs p ds b Af nf cf base _ HR1.out (by omega) HO1.out HOK.out).mono ?_
  rintro e w2 ⟨x, y, p2, rfl, hx, hy, hp2, hg, hr⟩
  have HX0 : Hid (C2 (w2.alloc (.cells #[.int .i64 x, .int .i64 y] 27)) w2.heap.size (.int .i64 x) (.int .i64 y)) := Lib.hid (c2New _ _ _ _)
  have HC2 := Lib.hid (HC1.out.grown hg (by simp; omega))
  have HG2 : Hid (w.grownBy w2 (some R)) := Lib.hid (HG1.out.trans hg)
  have hz2 : w.heap.size + 1 + 1 ≤ w2.heap.size := by have := hg.size; omega
  have HR2 := Lib.hid hr
  clear hg hr HF1 HC1 HO1 HR1 HG1
  obtain ⟨w3, hw⟩ : ∃ W : World, W = (w2.alloc (.cells #[.int .i64 x, .int .i64 y] 27)) := ⟨_, rfl⟩
  have hb : Below w2.heap.size w2 w3 := by rw [hw]; exact (Below.refl _ _).alloc (Nat.le_refl _) _
  have HC3 := Lib.hid (HC2.out.below hb)
  have HX3 : Hid (C2 w3 w2.heap.size (.int .i64 x) (.int .i64 y)) := Lib.hid (by rw [hw]; exact HX0.out)
  have HG3 : Hid (w.grownBy w3 (some R)) := Lib.hid (HG2.out.trans (grown_of_below hb _))
  have HR3 := Lib.hid (HR2.out.below hb)
  have HW := Lib.hid hw.symm
  clear hb hw HC2 HG2 HR2 HX0
  generalize hF1 : F0 + 1 = F1 at *
  obtain ⟨X, hX⟩ : ∃ X, w2.heap.size = X := ⟨_, rfl⟩
  go_wp2_with fail
  rw [HW.out]
  clear HW
  rw [hF0, hF1] at HC3
  rw [hX] at HX3
  have m1 : F1 ≠ X := by omega
  have m2 : X ≠ F1 := by omega
  have m3 : w.heap.size ≤ F1 := by omega
  have m4 : R < F1 := by omega
  have m5 : X ≠ R := by omega
  have m6 : F1 ≠ R := by omega
  have m7 : w.heap.size ≤ X := by omega
  have m8 : R < X := by omega
  refine (pick_any 16 R B A cb zs p2 _ HR3.out (by omega) (by omega) (by omega)).mono ?_
  rintro e w4 ⟨q, rfl, qa, qb, hg, hr⟩
  have HC4 := Lib.hid (HC3.out.grown hg (by simpa using m6))
  have HX4 := Lib.hid (HX3.out.grown hg (by simpa using m5))
  have HG4 : Hid (w.grownBy w4 (some R)) := Lib.hid (HG3.out.trans hg)
  have HR4 := Lib.hid hr
  clear hg hr qb HC3 HX3 HG3 HR3
  by_cases h0 : q = 0
  · subst h0
    go_wp2_with fail
    refine (one_any (-60000) 60000 R B A cb zs (p2 + 1) w4.heap.size 4 4 _ (HR4.out.below ((Below.refl _ _).alloc (Nat.le_refl _) _)) (by omega) (by have := HR4.out.lt; omega) (by omega) (by omega) (litI rfl rfl (by simp [allI]; try omega))).mono ?_
    rintro e w5 ⟨v, rfl, va, vb, hg0, hr⟩
    have hg := (World.grownBy_alloc w4 (.cells #[.int .i64 (-1), .int .i64 4096, .int .i64 32, .int .i64 1] 3) (some R)).trans hg0
    clear hg0
    obtain ⟨a0, a1, f0, f1⟩ := HX4.out.grown hg (by simpa using m5)
    obtain ⟨b0, b1, g0, g1⟩ := HC4.out.grown hg (by simpa using m6)
    have HG5 : Hid (w.grownBy w5 (some R)) := Lib.hid (HG4.out.trans hg)
    clear hg
    go_wp2
    refine bodyPost_ret (v := .agg #[.int .i64 v, .int .i64 y]) (by simp [results, Tryd.results122, go_sem, b0, b1, m1, m2]) rfl ⟨v, y, p2 + 1 + 1, rfl, by omega, by omega, by omega, ?_, ?_⟩
    · exact grown_set (grown_set (grown_set HG5.out (by exact m7) _) (by exact m3) _) (by exact m3) _
    · exact ((hr.set (by exact m8) _).set (by exact m4) _).set (by exact m4) _
  have e0 : (q == 0) = false := by rw [beq_eq_false_iff_ne]; exact h0
  by_cases h1 : q = 1
  · subst h1
    obtain ⟨a0, a1, f0, f1⟩ := HX4.out
    go_wp2_with fail
    refine (one_any (-60000) 60000 R B A cb zs (p2 + 1) w4.heap.size 4 4 _ (HR4.out.below ((Below.refl _ _).alloc (Nat.le_refl _) _)) (by omega) (by have := HR4.out.lt; omega) (by omega) (by omega) (litI rfl rfl (by simp [allI]; try omega))).mono ?_
    rintro e w5 ⟨v, rfl, va, vb, hg0, hr⟩
    have hg := (World.grownBy_alloc w4 (.cells #[.int .i64 (-1), .int .i64 4096, .int .i64 32, .int .i64 x] 3) (some R)).trans hg0
    clear hg0
    obtain ⟨a0, a1, f0, f1⟩ := HX4.out.grown hg (by simpa using m5)
    obtain ⟨b0, b1, g0, g1⟩ := HC4.out.grown hg (by simpa using m6)
    have HG5 : Hid (w.grownBy w5 (some R)) := Lib.hid (HG4.out.trans hg)
    clear hg
    go_wp2
    refine bodyPost_ret (v := .agg #[.int .i64 x, .int .i64 v]) (by simp [results, Tryd.results122, go_sem, b0, b1, m1, m2]) rfl ⟨x, v, p2 + 1 + 1, rfl, by omega, by omega, by omega, ?_, ?_⟩
    · exact grown_set (grown_set (grown_set HG5.out (by exact m7) _) (by exact m3) _) (by exact m3) _
    · exact ((hr.set (by exact m8) _).set (by exact m4) _).set (by exact m4) _
  have e1 : (q == 1) = false := by rw [beq_eq_false_iff_ne]; exact h1
  obtain ⟨a0, a1, f0, f1⟩ := HX4.out
  obtain ⟨b0, b1, g0, g1⟩ := HC4.out
  go_wp2
  refine bodyPost_ret (v := .agg #[.int .i64 x, .int .i64 y]) (by simp [results, Tryd.results122, go_sem, b0, b1, m1, m2]) rfl ⟨x, y, p2 + 1, rfl, by omega, by omega, by omega, ?_, ?_⟩
  · exact grown_set (grown_set HG4.out (by exact m3) _) (by exact m3) _
  · exact (HR4.out.set (by exact m4) _).set (by exact m4) _
/-- What armIn makes: the class in a row of its own, an arm, and the reader behind them. -/
def GenFA (q R B : Nat) (A : Option Addr) (cb : Nat) (zs : List Int) (p : Nat) (w : World) (e : Ending) (w' : World) : Prop :=
  ∃ (A' : Option Addr) (c : Nat) (ds : List D) (b x y : Int) (p' : Nat), e = .returned (.tuple #[.agg #[.slice A' ds.length c, .int .i64 b], .agg #[.int .i64 x, .int .i64 y]]) ∧ ds.length ≤ 13 ∧ (∀ d ∈ ds, d.small) ∧ (-1 ≤ b ∧ b ≤ 4) ∧ (-60000 ≤ x ∧ x ≤ 60000) ∧ (-60000 ≤ y ∧ y ≤ 60000) ∧
    w'.ownsRow w.heap.size 98 2 (.slice A' ds.length c) ds.length (flat ds) ∧ p' ≤ p + q ∧ w.grownBy w' (some R) ∧ Rdr w' R B A cb zs p'
set_option maxHeartbeats 8000000 in
theorem armIn_any (R B : Nat) (A : Option Addr) (cb : Nat) (zs : List Int) (p : Nat) (w : World) (h : Rdr w R B A cb zs p) (hp : p + 200 ≤ 100000) :
    Calls Tryd.prog 72 #[.pointer (some ⟨R, 0, none⟩)] w (GenFA 130 R B A cb zs p w) := by
  have hRw := h.lt
  obtain ⟨w1, hw⟩ : ∃ W : World, W = (w.alloc (.cells #[.slice none 0 0, .int .i64 0] 32)).alloc (.cells #[.int .i64 0, .int .i64 0] 27) := ⟨_, rfl⟩
  have hb : Below w.heap.size w w1 := by rw [hw]; exact ((Below.refl _ _).alloc (Nat.le_refl _) _).alloc (by simp) _
  have hz1 : w1.heap.size = w.heap.size + 1 + 1 := by rw [hw]; simp
  have HC1 : Hid (C2 w1 w.heap.size (.slice none 0 0) (.int .i64 0)) := Lib.hid (by rw [hw]; exact (c2New _ _ _ _).below ((Below.refl _ _).alloc (Nat.le_refl _) _))
  have HE1 : Hid (C2 w1 (w.heap.size + 1) (.int .i64 0) (.int .i64 0)) := Lib.hid (by rw [hw]; exact c2New' _ _ _ _ _)
  have HR1 := Lib.hid (h.below hb)
  have HG1 : Hid (w.grownBy w1 (some R)) := Lib.hid (grown_of_below hb _)
  have HW := Lib.hid hw.symm
  have hwR : w.heap.size ≠ R := by omega
  have hwR1 : w.heap.size + 1 ≠ R := by omega
  clear hb hw h
  go_enter Tryd.func72, Tryd.ntmps72
  go_wp2_with fail
  rw [HW.out]
  clear HW
  refine (someFlag_any R B A cb zs p _ HR1.out (by omega)).mono ?_
  rintro e w2 ⟨A', c, ds, b, p', rfl, hn, hsm, hbd, hown, hp', hg, hr⟩
  have hz2 : w1.heap.size ≤ w2.heap.size := hg.size
  have HC2 := Lib.hid (HC1.out.grown hg (by simpa using hwR))
  have HE2 := Lib.hid (HE1.out.grown hg (by simpa using hwR1))
  have HO2 := Lib.hid (own_base hown (show w.heap.size + 2 ≤ _ by omega))
  have HG2 : Hid (w.grownBy w2 (some R)) := Lib.hid (HG1.out.trans hg)
  have HR2 := Lib.hid hr
  have HSM := Lib.hid hsm
  have HBD := Lib.hid hbd
  clear hg hown hr hsm hbd HC1 HE1 HG1 HR1
  obtain ⟨w3, hw⟩ : ∃ W : World, W = w2.alloc (.cells #[.slice A' ds.length c, .int .i64 b] 32) := ⟨_, rfl⟩
  have hb : Below w2.heap.size w2 w3 := by rw [hw]; exact (Below.refl _ _).alloc (Nat.le_refl _) _
  have hz3 : w2.heap.size + 1 ≤ w3.heap.size := by rw [hw]; simp
  have HD3 : Hid (C2 w3 w2.heap.size (.slice A' ds.length c) (.int .i64 b)) := Lib.hid (by rw [hw]; exact c2New _ _ _ _)
  have HC3 := Lib.hid (HC2.out.below hb)
  have HE3 := Lib.hid (HE2.out.below hb)
  have HO3 := Lib.hid (own_below HO2.out hb)
  have HG3 : Hid (w.grownBy w3 (some R)) := Lib.hid (HG2.out.trans (grown_of_below hb _))
  have HR3 := Lib.hid (HR2.out.below hb)
  have HW := Lib.hid hw.symm
  have hGR : w2.heap.size ≠ R := by omega
  have hGw : w2.heap.size ≠ w.heap.size := by omega
  have hGw' : w.heap.size ≠ w2.heap.size := by omega
  have hGx : w2.heap.size ≠ w.heap.size + 1 := by omega
  have hGx' : w.heap.size + 1 ≠ w2.heap.size := by omega
  clear hb hw HC2 HE2 HO2 HG2 HR2
  go_wp2_with fail
  rw [HW.out]
  clear HW
  obtain ⟨d0, d1, _, _⟩ := HD3.out
  generalize hG : w2.heap.size = G at *
  clear hG
  go_region_held3 (fun w' => w'.cell? ⟨G, 0, none⟩ = some (.slice A' ds.length c) ∧ w'.cell? ⟨G, 1, none⟩ = some (.int .i64 b)) (first | go_keep | exact ⟨d0, d1⟩ | exact ⟨x0, x1⟩)
    (first | (go_at_call 122; refine (someArm_any R B A cb zs p' ds b A' ds.length c (w.heap.size + 2) _ (HR3.out.drewN 1) (by omega) (own_below HO3.out (below_drewN (Below.refl _ _) 1)) HSM.out (by omega)).mono ?_; rintro e w4 ⟨x, y, p4, rfl, hx, hy, hp4, hg, hr⟩; replace hg : w3.grownBy w4 (some R) := ⟨hg.os, hg.tape, hg.output, hg.size, hg.block⟩; have HC4 := Lib.hid (HC3.out.grown hg (by simpa using hwR)); have HE4 := Lib.hid (HE3.out.grown hg (by simpa using hwR1)); have HD4 := Lib.hid (HD3.out.grown hg (by simpa using hGR)); have x0 := HD4.out.c0; have x1 := HD4.out.c1; have y0 := HC4.out.c0; have y1 := HC4.out.c1; have z0 := HC4.out.f0; have z1 := HC4.out.f1; have e0 := HE4.out.c0; have e1 := HE4.out.c1; have g0 := HE4.out.f0; have g1 := HE4.out.f1))
  have HO4 := Lib.hid (HO3.out.kept hg (own_neR HO3.out (by omega)))
  have HG4 : Hid (w.grownBy w4 (some R)) := Lib.hid (HG3.out.trans hg)
  have HR4 := Lib.hid hr
  clear hg hr
  go_wp2
  refine bodyPost_ret (v := .tuple #[.agg #[.slice A' ds.length c, .int .i64 b], .agg #[.int .i64 x, .int .i64 y]]) (by simp [results, Tryd.results72, go_sem, y0, y1, e0, e1]) rfl ⟨A', c, ds, b, x, y, p4, rfl, hn, HSM.out, HBD.out, hx, hy, ?_, by omega, ?_, ?_⟩
  · exact own_setCell (own_setCell (own_setCell (own_setCell (own_base HO4.out (by omega)) (fun e => by have := (HO4.out.lt _ e).1; simp only at *; omega) _) (fun e => by have := (HO4.out.lt _ e).1; simp only at *; omega) _) (fun e => by have := (HO4.out.lt _ e).1; simp only at *; omega) _) (fun e => by have := (HO4.out.lt _ e).1; simp only at *; omega) _
  · exact grown_set (grown_set (grown_set (grown_set HG4.out (by simp) _) (by simp) _) (by simp) _) (by simp) _
  · exact (((HR4.out.set (by simp only; omega) _).set (by simp only; omega) _).set (by simp only; omega) _).set (by simp only; omega) _
end Go.Proofs.YtpfdghbjagdhfaaDoor
