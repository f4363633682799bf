import Derived.Test.YtpmanbmhbfnefaaGenG
import Derived.Test.YtpmanbmhbfnefaaBaseD
import Derived.Test.YtpmanbmhbfnefaaBaseE
namespace Go.Proofs.Ytpmanbmhbfnefaa
open Go.RowKit
set_option linter.unusedVariables false
set_option maxRecDepth 100000

theorem smallV_and (a b : Nat) (ha : a ≤ 4096) : a &&& b ≤ 4096 := Nat.le_trans (and_le a b) ha
/-- A drawn number, and the reader behind it. -/
def DrawnV (q R B : Nat) (A : Option Addr) (cb : Nat) (zs : List Int) (p : Nat) (w : World) (e : Ending) (w' : World) : Prop :=
  ∃ (v : Int) (p' : Nat), e = .returned (.int .i64 v) ∧ (-1 ≤ v ∧ v ≤ 4096) ∧ p' ≤ p + q ∧ w.grownBy w' (some R) ∧ Rdr w' R B A cb zs p'
set_option maxHeartbeats 8000000 in
theorem aValue_any (R B : Nat) (A : Option Addr) (cb : Nat) (zs : List Int) (p : Nat) (ds : List D) (b : Int) (Af : Option Addr) (nf cf base : Nat) (w : World) (h : Rdr w R B A cb zs p) (hp : p + 10 ≤ 100000)
    (ho : w.ownsRow base 48 2 (.slice Af nf cf) nf (flat ds)) (hok : ∀ d ∈ ds, d.ok) (hRb : R < base) :
    Calls Try.prog 80 #[.pointer (some ⟨R, 0, none⟩), .agg #[.slice Af nf cf, .int .i64 b]] w (DrawnV 5 R B A cb zs p w) := by
  have hRw := h.lt
  have hwR : w.heap.size ≠ R := by omega
  have HR := Lib.hid h
  have HOK := Lib.hid hok
  have HO := Lib.hid ho
  clear h ho hok
  obtain ⟨w1, hw⟩ : ∃ W : World, W = w.alloc (.cells #[.slice Af nf cf, .int .i64 b] 58) := ⟨_, rfl⟩
  have hb : Below w.heap.size w w1 := by rw [hw]; exact (Below.refl _ _).alloc (Nat.le_refl _) _
  have HC1 : Hid (C2 w1 w.heap.size (.slice Af nf cf) (.int .i64 b)) := Lib.hid (by rw [hw]; exact c2New _ _ _ _)
  have HO1 := Lib.hid (own_below HO.out hb)
  have HR1 := Lib.hid (HR.out.below hb)
  have HG1 : Hid (w.grownBy w1 (some R)) := Lib.hid (grown_of_below hb _)
  have HW := Lib.hid hw.symm
  clear hb hw HO HR
  go_enter Try.func80, Try.ntmps80
  go_wp2_with fail
  rw [HW.out]
  clear HW
  refine (pick_any 64 R B A cb zs p _ HR1.out (by omega) (by omega) (by omega)).mono ?_
  rintro e w2 ⟨q0, rfl, qa, qb, hg, hr⟩
  have qc := qb (by omega)
  clear qb
  have HC2 := Lib.hid (HC1.out.grown hg (by simpa using hwR))
  have HG2 : Hid (w.grownBy w2 (some R)) := Lib.hid (HG1.out.trans hg)
  have HO2 := Lib.hid (HO1.out.kept hg (own_neR HO1.out hRb))
  have HR2 := Lib.hid hr
  clear hg hr HC1 HG1 HO1 HR1
  go_wp2_with fail
  refine (one_any 0 2048 R B A cb zs (p + 1) w2.heap.size 8 8 _ (HR2.out.below ((Below.refl _ _).alloc (Nat.le_refl _) _)) (by omega) (by have := HR2.out.lt; omega) (by omega) (by omega) (litI rfl rfl (by simp [allI]; omega))).mono ?_
  rintro e w3 ⟨nv, rfl, na, nb, hg0, hr⟩
  have hg := (World.grownBy_alloc w2 (.cells #[.int .i64 q0, .int .i64 1, .int .i64 3, .int .i64 7, .int .i64 0, .int .i64 63, .int .i64 5, .int .i64 2048] 3) (some R)).trans hg0
  clear hg0
  have HC3 := Lib.hid (HC2.out.grown hg (by simpa using hwR))
  have HG3 : Hid (w.grownBy w3 (some R)) := Lib.hid (HG2.out.trans hg)
  have HO3 := Lib.hid (HO2.out.kept hg (own_neR HO2.out hRb))
  have HR3 := Lib.hid hr
  clear hg hr HC2 HG2 HO2 HR2
  obtain ⟨n, rfl⟩ : ∃ n : Nat, nv = n := ⟨nv.toNat, by omega⟩
  have hn4 : n < 4096 := by omega
  obtain ⟨c0, c1, f0, f1⟩ := HC3.out
  cases hv : vFlag ds b
  · have HV := Lib.hid hv
    clear hv
    go_wp2_with fail
    refine (specVF_v ds b _ _ _ _ (sd_of_own HO3.out HOK.out) HV.out).mono ?_
    rintro e w4 ⟨rfl, hb⟩
    have HR4 := Lib.hid (HR3.out.below hb)
    have HG4 : Hid (w.grownBy w4 (some R)) := Lib.hid (HG3.out.trans (grown_of_below hb _))
    clear hb
    go_wp2_with fail
    refine (one_any (-1) (4096) R B A cb zs (p + 1 + 1) w4.heap.size 4 4 _ (HR4.out.below ((Below.refl _ _).alloc (Nat.le_refl _) _)) (by omega) (by have := HR4.out.lt; omega) (by omega) (by omega) (litI rfl rfl (by simp [allI]; omega))).mono ?_
    rintro e w5 ⟨v, rfl, va, vb, hg0, hr⟩
    have hg := (World.grownBy_alloc w4 (.cells #[.int .i64 n, .int .i64 (-1), .int .i64 4096, .int .i64 n] 3) (some R)).trans hg0
    clear hg0
    have HGe : Hid (w.grownBy w5 (some R)) := Lib.hid (HG4.out.trans hg)
    have HRe := Lib.hid hr
    clear hg hr
    go_wp2
    go_ret
    exact ⟨v, _, rfl, ⟨by omega, by omega⟩, by omega, HGe.out, HRe.out⟩
  have HV := Lib.hid hv
  have HIN := Lib.hid (vFlag_in hv)
  have hm4 := mMask_lt12 HIN.out
  obtain ⟨mk, hmk⟩ : ∃ mk, mMask ds = mk := ⟨_, rfl⟩
  rw [hmk] at hm4
  have HMK := Lib.hid hmk
  clear hv hmk
  go_wp2_with fail
  refine (specVF_v ds b _ _ _ _ (sd_of_own HO3.out HOK.out) HV.out).mono ?_
  rintro e w4 ⟨rfl, hb⟩
  have HC4 := Lib.hid (HC3.out.below hb)
  have HO4 := Lib.hid (own_below HO3.out hb)
  have HR4 := Lib.hid (HR3.out.below hb)
  have HG4 : Hid (w.grownBy w4 (some R)) := Lib.hid (HG3.out.trans (grown_of_below hb _))
  clear hb HC3 HO3 HR3 HG3 c0 c1 f0 f1
  go_wp2_with fail
  refine (pick_any 6 R B A cb zs (p + 1 + 1) _ HR4.out (by omega) (by omega) (by omega)).mono ?_
  rintro e w5 ⟨q1, rfl, ra, rb, hg, hr⟩
  clear rb
  have HC5 := Lib.hid (HC4.out.grown hg (by simpa using hwR))
  have HG5 : Hid (w.grownBy w5 (some R)) := Lib.hid (HG4.out.trans hg)
  have HO5 := Lib.hid (HO4.out.kept hg (own_neR HO4.out hRb))
  have HR5 := Lib.hid hr
  clear hg hr HC4 HG4 HO4 HR4
  obtain ⟨c0, c1, f0, f1⟩ := HC5.out
  by_cases h1 : 0 < q1
  · skip
    go_wp2_with fail
    refine (mask_any ds _ _ _ _ (sd_of_own HO5.out HOK.out) HIN.out HMK.out).mono ?_
    rintro e w' ⟨rfl, rfl⟩
    obtain ⟨z, hz⟩ : ∃ z, n &&& mk = z := ⟨_, rfl⟩
    have hz4 : z < 4096 := by rw [← hz]; exact and_lt hn4
    have HZ := Lib.hid hz
    clear hz
    by_cases h3 : b = 3
    · subst h3
      go_wp2_with fail
      refine (pick_any 2 R B A cb zs (p + 1 + 1 + 1) _ HR5.out (by omega) (by omega) (by omega)).mono ?_
      rintro e w6 ⟨q2, rfl, sa, sb, hg, hr⟩
      clear sb
      have HR6 := Lib.hid hr
      have HG6 : Hid (w.grownBy w6 (some R)) := Lib.hid (HG5.out.trans hg)
      clear hg hr
      by_cases h2 : q2 = 0
      · subst h2
        go_wp2
        go_ret
        exact ⟨n, _, rfl, ⟨by omega, by omega⟩, by omega, HG6.out, HR6.out⟩
      · have e2 : (q2 == 0) = false := beq_eq_false_iff_ne.2 h2
        go_wp2_with (go_at_call 97; refine (both_v n mk _ hn4 hm4 HZ.out).mono ?_; rintro e w' ⟨rfl, rfl⟩)
        refine (one_any (-1) (4096) R B A cb zs (p + 1 + 1 + 1 + 1) w6.heap.size 4 4 _ (HR6.out.below ((Below.refl _ _).alloc (Nat.le_refl _) _)) (by omega) (by have := HR6.out.lt; omega) (by omega) (by omega) (litI rfl rfl (by simp [allI]; omega))).mono ?_
        rintro e w7 ⟨v, rfl, va, vb, hg0, hr⟩
        have hg := (World.grownBy_alloc w6 (.cells #[.int .i64 z, .int .i64 mk, .int .i64 z, .int .i64 z] 3) (some R)).trans hg0
        clear hg0
        have HGe : Hid (w.grownBy w7 (some R)) := Lib.hid (HG6.out.trans hg)
        have HRe := Lib.hid hr
        clear hg hr
        go_wp2
        go_ret
        exact ⟨v, _, rfl, ⟨by omega, by omega⟩, by omega, HGe.out, HRe.out⟩
    · have e3 : (b == 3) = false := beq_eq_false_iff_ne.2 h3
      go_wp2_with (go_at_call 97; refine (both_v n mk _ hn4 hm4 HZ.out).mono ?_; rintro e w' ⟨rfl, rfl⟩)
      refine (one_any (-1) (4096) R B A cb zs (p + 1 + 1 + 1) w5.heap.size 4 4 _ (HR5.out.below ((Below.refl _ _).alloc (Nat.le_refl _) _)) (by omega) (by have := HR5.out.lt; omega) (by omega) (by omega) (litI rfl rfl (by simp [allI]; omega))).mono ?_
      rintro e w6 ⟨v, rfl, va, vb, hg0, hr⟩
      have hg := (World.grownBy_alloc w5 (.cells #[.int .i64 z, .int .i64 mk, .int .i64 z, .int .i64 z] 3) (some R)).trans hg0
      clear hg0
      have HGe : Hid (w.grownBy w6 (some R)) := Lib.hid (HG5.out.trans hg)
      have HRe := Lib.hid hr
      clear hg hr
      go_wp2
      go_ret
      exact ⟨v, _, rfl, ⟨by omega, by omega⟩, by omega, HGe.out, HRe.out⟩
  · skip
    go_wp2_with fail
    refine (one_any (-1) (4096) R B A cb zs (p + 1 + 1 + 1) w5.heap.size 4 4 _ (HR5.out.below ((Below.refl _ _).alloc (Nat.le_refl _) _)) (by omega) (by have := HR5.out.lt; omega) (by omega) (by omega) (litI rfl rfl (by simp [allI]; omega))).mono ?_
    rintro e w6 ⟨v, rfl, va, vb, hg0, hr⟩
    have hg := (World.grownBy_alloc w5 (.cells #[.int .i64 n, .int .i64 (-1), .int .i64 4096, .int .i64 n] 3) (some R)).trans hg0
    clear hg0
    have HGe : Hid (w.grownBy w6 (some R)) := Lib.hid (HG5.out.trans hg)
    have HRe := Lib.hid hr
    clear hg hr
    go_wp2
    go_ret
    exact ⟨v, _, rfl, ⟨by omega, by omega⟩, by omega, HGe.out, HRe.out⟩
/-- A drawn class of flags, and two numbers. -/
def DrawFNN (w : World) (e : Ending) (w' : World) : Prop :=
  ∃ (A : Option Addr) (c : Nat) (ds : List D) (b x y : Int), e = .returned (.tuple #[.agg #[.slice A ds.length c, .int .i64 b], .int .i64 x, .int .i64 y]) ∧ ds.length ≤ 13 ∧ (∀ d ∈ ds, d.small) ∧ (-1 ≤ b ∧ b ≤ 4) ∧ (-1 ≤ x ∧ x ≤ 4096) ∧ (-1 ≤ y ∧ y ≤ 4096) ∧ SD w' w'.heap.size A ds.length c ds ∧ Below w.heap.size w w'
/-- What valuesIn makes: the class in a row of its own. -/
def GenFNN (R B : Nat) (A : Option Addr) (cb : Nat) (zs : List Int) (p : Nat) (w : World) (e : Ending) (w' : World) : Prop :=
  ∃ (A' : Option Addr) (c : Nat) (ds : List D) (b x y : Int), e = .returned (.tuple #[.agg #[.slice A' ds.length c, .int .i64 b], .int .i64 x, .int .i64 y]) ∧ ds.length ≤ 13 ∧ (∀ d ∈ ds, d.small) ∧ (-1 ≤ b ∧ b ≤ 4) ∧ (-1 ≤ x ∧ x ≤ 4096) ∧ (-1 ≤ y ∧ y ≤ 4096) ∧
    w'.ownsRow w.heap.size 48 2 (.slice A' ds.length c) ds.length (flat ds) ∧ w.grownBy w' (some R)
end Go.Proofs.Ytpmanbmhbfnefaa
