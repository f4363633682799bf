import Derived.Test.YtmahjggkiikmgaaGenG
import Derived.Test.YtmahjggkiikmgaaFlagT
import Derived.Test.YtmahjggkiikmgaaAlgP
namespace Go.Proofs.Ytmahjggkiikmgaa
open Go.RowKit
set_option linter.unusedVariables false
set_option maxRecDepth 100000

theorem smallV_and (a b : Nat) (ha : a ≤ 4096) : a &&& b ≤ 4096 := Nat.le_trans (and_le a b) ha
/-- A drawn number, and the reader behind it. -/
def DrawnV (q R B : Nat) (A : Option Addr) (cb : Nat) (zs : List Int) (p : Nat) (w : World) (e : Ending) (w' : World) : Prop :=
  ∃ (v : Int) (p' : Nat), e = .returned (.int .i64 v) ∧ (-1 ≤ v ∧ v ≤ 4096) ∧ p' ≤ p + q ∧ w.grownBy w' (some R) ∧ Rdr w' R B A cb zs p'
set_option maxHeartbeats 8000000 in
theorem aValue_any (R B : Nat) (A : Option Addr) (cb : Nat) (zs : List Int) (p : Nat) (ds : List D) (b : Int) (Af : Option Addr) (nf cf base : Nat) (w : World) (h : Rdr w R B A cb zs p) (hp : p + 10 ≤ 100000)
    (ho : w.ownsRow base 59 2 (.slice Af nf cf) nf (flat ds)) (hok : ∀ d ∈ ds, d.ok) (hRb : R < base) :
    Calls Try.prog 112 #[.pointer (some ⟨R, 0, none⟩), .agg #[.slice Af nf cf, .int .i64 b]] w (DrawnV 5 R B A cb zs p w) := by
  have hRw := h.lt
  have hwR : w.heap.size ≠ R := by omega
  have HR := Lib.hid h
  have HOK := Lib.hid hok
  have HO := Lib.hid ho
  clear h ho hok
  obtain ⟨w1, hw⟩ : ∃ W : World, W = w.alloc (.cells #[.slice Af nf cf, .int .i64 b] 25) := ⟨_, rfl⟩
  have hb : Below w.heap.size w w1 := by rw [hw]; exact (Below.refl _ _).alloc (Nat.le_refl _) _
  have HC1 : Hid (C2 w1 w.heap.size (.slice Af nf cf) (.int .i64 b)) := Lib.hid (by rw [hw]; exact c2New _ _ _ _)
  have HO1 := Lib.hid (own_below HO.out hb)
  have HR1 := Lib.hid (HR.out.below hb)
  have HG1 : Hid (w.grownBy w1 (some R)) := Lib.hid (grown_of_below hb _)
  have HW := Lib.hid hw.symm
  clear hb hw HO HR
  go_enter Try.func112, Try.ntmps112
  go_wp2_with fail
  rw [HW.out]
  clear HW
  refine (pick_any 64 R B A cb zs p _ HR1.out (by omega) (by omega) (by omega)).mono ?_
  rintro e w2 ⟨q0, rfl, qa, qb, hg, hr⟩
  have qc := qb (by omega)
  clear qb
  have HC2 := Lib.hid (HC1.out.grown hg (by simpa using hwR))
  have HG2 : Hid (w.grownBy w2 (some R)) := Lib.hid (HG1.out.trans hg)
  have HO2 := Lib.hid (HO1.out.kept hg (own_neR HO1.out hRb))
  have HR2 := Lib.hid hr
  clear hg hr HC1 HG1 HO1 HR1
  go_wp2_with fail
  refine (one_any 0 2048 R B A cb zs (p + 1) w2.heap.size 8 8 _ (HR2.out.below ((Below.refl _ _).alloc (Nat.le_refl _) _)) (by omega) (by have := HR2.out.lt; omega) (by omega) (by omega) (litI rfl rfl (by simp [allI]; omega))).mono ?_
  rintro e w3 ⟨nv, rfl, na, nb, hg0, hr⟩
  have hg := (World.grownBy_alloc w2 (.cells #[.int .i64 q0, .int .i64 1, .int .i64 3, .int .i64 7, .int .i64 0, .int .i64 63, .int .i64 5, .int .i64 2048] 3) (some R)).trans hg0
  clear hg0
  have HC3 := Lib.hid (HC2.out.grown hg (by simpa using hwR))
  have HG3 : Hid (w.grownBy w3 (some R)) := Lib.hid (HG2.out.trans hg)
  have HO3 := Lib.hid (HO2.out.kept hg (own_neR HO2.out hRb))
  have HR3 := Lib.hid hr
  clear hg hr HC2 HG2 HO2 HR2
  obtain ⟨n, rfl⟩ : ∃ n : Nat, nv = n := ⟨nv.toNat, by omega⟩
  have hn4 : n < 4096 := by omega
  obtain ⟨c0, c1, f0, f1⟩ := HC3.out
  cases hv : vFlag ds b
  · have HV := Lib.hid hv
    clear hv
    go_wp2_with fail
    refine (specVF_v ds b _ _ _ _ (sd_of_own HO3.out HOK.out) HV.out).mono ?_
    rintro e w4 ⟨rfl, hb⟩
    have HR4 := Lib.hid (HR3.out.below hb)
    have HG4 : Hid (w.grownBy w4 (some R)) := Lib.hid (HG3.out.trans (grown_of_below hb _))
    clear hb
    go_wp2_with fail
    refine (one_any (-1) (4096) R B A cb zs (p + 1 + 1) w4.heap.size 4 4 _ (HR4.out.below ((Below.refl _ _).alloc (Nat.le_refl _) _)) (by omega) (by have := HR4.out.lt; omega) (by omega) (by omega) (litI rfl rfl (by simp [allI]; omega))).mono ?_
    rintro e w5 ⟨v, rfl, va, vb, hg0, hr⟩
    have hg := (World.grownBy_alloc w4 (.cells #[.int .i64 n, .int .i64 (-1), .int .i64 4096, .int .i64 n] 3) (some R)).trans hg0
    clear hg0
    have HGe : Hid (w.grownBy w5 (some R)) := Lib.hid (HG4.out.trans hg)
    have HRe := Lib.hid hr
    clear hg hr
    go_wp2
    go_ret
    exact ⟨v, _, rfl, ⟨by omega, by omega⟩, by omega, HGe.out, HRe.out⟩
  have HV := Lib.hid hv
  have HIN := Lib.hid (vFlag_in hv)
  have hm4 := mMask_lt12 HIN.out
  obtain ⟨mk, hmk⟩ : ∃ mk, mMask ds = mk := ⟨_, rfl⟩
  rw [hmk] at hm4
  have HMK := Lib.hid hmk
  clear hv hmk
  go_wp2_with fail
  refine (specVF_v ds b _ _ _ _ (sd_of_own HO3.out HOK.out) HV.out).mono ?_
  rintro e w4 ⟨rfl, hb⟩
  have HC4 := Lib.hid (HC3.out.below hb)
  have HO4 := Lib.hid (own_below HO3.out hb)
  have HR4 := Lib.hid (HR3.out.below hb)
  have HG4 : Hid (w.grownBy w4 (some R)) := Lib.hid (HG3.out.trans (grown_of_below hb _))
  clear hb HC3 HO3 HR3 HG3 c0 c1 f0 f1
  go_wp2_with fail
  refine (pick_any 6 R B A cb zs (p + 1 + 1) _ HR4.out (by omega) (by omega) (by omega)).mono ?_
  rintro e w5 ⟨q1, rfl, ra, rb, hg, hr⟩
  clear rb
  have HC5 := Lib.hid (HC4.out.grown hg (by simpa using hwR))
  have HG5 : Hid (w.grownBy w5 (some R)) := Lib.hid (HG4.out.trans hg)
  have HO5 := Lib.hid (HO4.out.kept hg (own_neR HO4.out hRb))
  have HR5 := Lib.hid hr
  clear hg hr HC4 HG4 HO4 HR4
  obtain ⟨c0, c1, f0, f1⟩ := HC5.out
  by_cases h1 : 0 < q1
  · skip
    go_wp2_with fail
    refine (mask_any ds _ _ _ _ (sd_of_own HO5.out HOK.out) HIN.out HMK.out).mono ?_
    rintro e w' ⟨rfl, rfl⟩
    obtain ⟨z, hz⟩ : ∃ z, n &&& mk = z := ⟨_, rfl⟩
    have hz4 : z < 4096 := by rw [← hz]; exact and_lt hn4
    have HZ := Lib.hid hz
    clear hz
    by_cases h3 : b = 3
    · subst h3
      go_wp2_with fail
      refine (pick_any 2 R B A cb zs (p + 1 + 1 + 1) _ HR5.out (by omega) (by omega) (by omega)).mono ?_
      rintro e w6 ⟨q2, rfl, sa, sb, hg, hr⟩
      clear sb
      have HR6 := Lib.hid hr
      have HG6 : Hid (w.grownBy w6 (some R)) := Lib.hid (HG5.out.trans hg)
      clear hg hr
      by_cases h2 : q2 = 0
      · subst h2
        go_wp2
        go_ret
        exact ⟨n, _, rfl, ⟨by omega, by omega⟩, by omega, HG6.out, HR6.out⟩
      · have e2 : (q2 == 0) = false := beq_eq_false_iff_ne.2 h2
        go_wp2_with (go_at_call 116; refine (both_v n mk _ hn4 hm4 HZ.out).mono ?_; rintro e w' ⟨rfl, rfl⟩)
        refine (one_any (-1) (4096) R B A cb zs (p + 1 + 1 + 1 + 1) w6.heap.size 4 4 _ (HR6.out.below ((Below.refl _ _).alloc (Nat.le_refl _) _)) (by omega) (by have := HR6.out.lt; omega) (by omega) (by omega) (litI rfl rfl (by simp [allI]; omega))).mono ?_
        rintro e w7 ⟨v, rfl, va, vb, hg0, hr⟩
        have hg := (World.grownBy_alloc w6 (.cells #[.int .i64 z, .int .i64 mk, .int .i64 z, .int .i64 z] 3) (some R)).trans hg0
        clear hg0
        have HGe : Hid (w.grownBy w7 (some R)) := Lib.hid (HG6.out.trans hg)
        have HRe := Lib.hid hr
        clear hg hr
        go_wp2
        go_ret
        exact ⟨v, _, rfl, ⟨by omega, by omega⟩, by omega, HGe.out, HRe.out⟩
    · have e3 : (b == 3) = false := beq_eq_false_iff_ne.2 h3
      go_wp2_with (go_at_call 116; refine (both_v n mk _ hn4 hm4 HZ.out).mono ?_; rintro e w' ⟨rfl, rfl⟩)
      refine (one_any (-1) (4096) R B A cb zs (p + 1 + 1 + 1) w5.heap.size 4 4 _ (HR5.out.below ((Below.refl _ _).alloc (Nat.le_refl _) _)) (by omega) (by have := HR5.out.lt; omega) (by omega) (by omega) (litI rfl rfl (by simp [allI]; omega))).mono ?_
      rintro e w6 ⟨v, rfl, va, vb, hg0, hr⟩
      have hg := (World.grownBy_alloc w5 (.cells #[.int .i64 z, .int .i64 mk, .int .i64 z, .int .i64 z] 3) (some R)).trans hg0
      clear hg0
      have HGe : Hid (w.grownBy w6 (some R)) := Lib.hid (HG5.out.trans hg)
      have HRe := Lib.hid hr
      clear hg hr
      go_wp2
      go_ret
      exact ⟨v, _, rfl, ⟨by omega, by omega⟩, by omega, HGe.out, HRe.out⟩
  · skip
    go_wp2_with fail
    refine (one_any (-1) (4096) R B A cb zs (p + 1 + 1 + 1) w5.heap.size 4 4 _ (HR5.out.below ((Below.refl _ _).alloc (Nat.le_refl _) _)) (by omega) (by have := HR5.out.lt; omega) (by omega) (by omega) (litI rfl rfl (by simp [allI]; omega))).mono ?_
    rintro e w6 ⟨v, rfl, va, vb, hg0, hr⟩
    have hg := (World.grownBy_alloc w5 (.cells #[.int .i64 n, .int .i64 (-1), .int .i64 4096, .int .i64 n] 3) (some R)).trans hg0
    clear hg0
    have HGe : Hid (w.grownBy w6 (some R)) := Lib.hid (HG5.out.trans hg)
    have HRe := Lib.hid hr
    clear hg hr
    go_wp2
    go_ret
    exact ⟨v, _, rfl, ⟨by omega, by omega⟩, by omega, HGe.out, HRe.out⟩
/-- A drawn class of flags, and two numbers. -/
def DrawFNN (w : World) (e : Ending) (w' : World) : Prop :=
  ∃ (A : Option Addr) (c : Nat) (ds : List D) (b x y : Int), e = .returned (.tuple #[.agg #[.slice A ds.length c, .int .i64 b], .int .i64 x, .int .i64 y]) ∧ ds.length ≤ 13 ∧ (∀ d ∈ ds, d.small) ∧ (-1 ≤ b ∧ b ≤ 4) ∧ (-1 ≤ x ∧ x ≤ 4096) ∧ (-1 ≤ y ∧ y ≤ 4096) ∧ SD w' w'.heap.size A ds.length c ds ∧ Below w.heap.size w w'
/-- What valuesIn makes: the class in a row of its own. -/
def GenFNN (R B : Nat) (A : Option Addr) (cb : Nat) (zs : List Int) (p : Nat) (w : World) (e : Ending) (w' : World) : Prop :=
  ∃ (A' : Option Addr) (c : Nat) (ds : List D) (b x y : Int), e = .returned (.tuple #[.agg #[.slice A' ds.length c, .int .i64 b], .int .i64 x, .int .i64 y]) ∧ ds.length ≤ 13 ∧ (∀ d ∈ ds, d.small) ∧ (-1 ≤ b ∧ b ≤ 4) ∧ (-1 ≤ x ∧ x ≤ 4096) ∧ (-1 ≤ y ∧ y ≤ 4096) ∧
    w'.ownsRow w.heap.size 59 2 (.slice A' ds.length c) ds.length (flat ds) ∧ w.grownBy w' (some R)
set_option maxHeartbeats 8000000 in
theorem valuesIn_any (R B : Nat) (A : Option Addr) (cb : Nat) (zs : List Int) (p : Nat) (w : World) (h : Rdr w R B A cb zs p) (hp : p + 200 ≤ 100000) :
    Calls Try.prog 78 #[.pointer (some ⟨R, 0, none⟩)] w (GenFNN R B A cb zs p w) := by
  have hRw := h.lt
  have HR := Lib.hid h
  clear h
  obtain ⟨w1, hw⟩ : ∃ W : World, W = w.alloc (.cells #[.slice none 0 0, .int .i64 0] 25) := ⟨_, rfl⟩
  have hb : Below w.heap.size w w1 := by rw [hw]; exact (Below.refl _ _).alloc (Nat.le_refl _) _
  have hz1 : w.heap.size + 1 ≤ w1.heap.size := by rw [hw]; simp
  have HC1 : Hid (C2 w1 w.heap.size (.slice none 0 0) (.int .i64 0)) := Lib.hid (by rw [hw]; exact c2New _ _ _ _)
  have HR1 := Lib.hid (HR.out.below hb)
  have HG1 : Hid (w.grownBy w1 (some R)) := Lib.hid (grown_of_below hb _)
  have HW := Lib.hid hw.symm
  have hwR : w.heap.size ≠ R := by omega
  clear hb hw HR
  go_enter Try.func78, Try.ntmps78
  go_wp2_with fail
  rw [HW.out]
  clear HW
  refine (someFlag_any R B A cb zs p _ HR1.out (by omega)).mono ?_
  rintro e w2 ⟨A', c, ds, b, p', rfl, hn, hsm, hbd, hown, hp', hg, hr⟩
  have hz2 : w1.heap.size ≤ w2.heap.size := hg.size
  have HC2 := Lib.hid (HC1.out.grown hg (by simpa using hwR))
  have HO2 := Lib.hid (own_base hown (show w.heap.size + 1 ≤ _ by omega))
  have HG2 : Hid (w.grownBy w2 (some R)) := Lib.hid (HG1.out.trans hg)
  have HR2 := Lib.hid hr
  have HSM := Lib.hid hsm
  have HOK : Hid (∀ d ∈ ds, d.ok) := Lib.hid fun d hd => small_ok (hsm d hd)
  have HBD := Lib.hid hbd
  clear hg hown hr hsm hbd HC1 HG1 HR1
  obtain ⟨w3, hw⟩ : ∃ W : World, W = w2.alloc (.cells #[.slice A' ds.length c, .int .i64 b] 25) := ⟨_, rfl⟩
  have hb : Below w2.heap.size w2 w3 := by rw [hw]; exact (Below.refl _ _).alloc (Nat.le_refl _) _
  have hz3 : w2.heap.size + 1 ≤ w3.heap.size := by rw [hw]; simp
  have HD3 : Hid (C2 w3 w2.heap.size (.slice A' ds.length c) (.int .i64 b)) := Lib.hid (by rw [hw]; exact c2New _ _ _ _)
  have HC3 := Lib.hid (HC2.out.below hb)
  have HO3 := Lib.hid (own_below HO2.out hb)
  have HG3 : Hid (w.grownBy w3 (some R)) := Lib.hid (HG2.out.trans (grown_of_below hb _))
  have HR3 := Lib.hid (HR2.out.below hb)
  have HW := Lib.hid hw.symm
  obtain ⟨d0, d1, e0, e1⟩ := HD3.out
  have l0 : (w2.alloc (.cells #[.slice A' ds.length c, .int .i64 b] 25)).cell? ⟨w2.heap.size, 0, none⟩ = some (.slice A' ds.length c) := by rw [← hw]; exact d0
  have l1 : (w2.alloc (.cells #[.slice A' ds.length c, .int .i64 b] 25)).cell? ⟨w2.heap.size, 1, none⟩ = some (.int .i64 b) := by rw [← hw]; exact d1
  have hGR : w2.heap.size ≠ R := by omega
  clear hb hw HC2 HO2 HG2 HR2 d0 d1 e0 e1
  go_wp2_with fail
  rw [HW.out]
  clear HW l0 l1
  refine (aValue_any R B A cb zs p' ds b A' ds.length c (w.heap.size + 1) _ HR3.out (by omega) HO3.out HOK.out (by omega)).mono ?_
  rintro e w4 ⟨x, p4, rfl, hx, hp4, hg, hr⟩
  have HC4 := Lib.hid (HC3.out.grown hg (by simpa using hwR))
  have HD4 := Lib.hid (HD3.out.grown hg (by simpa using hGR))
  have HO4 := Lib.hid (HO3.out.kept hg (own_neR HO3.out (by omega)))
  have HG4 : Hid (w.grownBy w4 (some R)) := Lib.hid (HG3.out.trans hg)
  have HR4 := Lib.hid hr
  obtain ⟨d0, d1, e0, e1⟩ := HD4.out
  clear hg hr HC3 HD3 HO3 HG3 HR3
  go_wp2_with fail
  refine (aValue_any R B A cb zs p4 ds b A' ds.length c (w.heap.size + 1) _ HR4.out (by omega) HO4.out HOK.out (by omega)).mono ?_
  rintro e w5 ⟨y, p5, rfl, hy, hp5, hg, hr⟩
  have HC5 := Lib.hid (HC4.out.grown hg (by simpa using hwR))
  have HD5 := Lib.hid (HD4.out.grown hg (by simpa using hGR))
  have HO5 := Lib.hid (HO4.out.kept hg (own_neR HO4.out (by omega)))
  have HG5 : Hid (w.grownBy w5 (some R)) := Lib.hid (HG4.out.trans hg)
  have HR5 := Lib.hid hr
  clear hg hr HC4 HD4 HO4 HG4 HR4 d0 d1 e0 e1
  obtain ⟨d0, d1, e0, e1⟩ := HD5.out
  obtain ⟨u, hu⟩ : ∃ u, mIsV ds b x = u := ⟨_, rfl⟩
  have HU := Lib.hid hu
  clear hu
  generalize hG : w2.heap.size = G at *
  clear hG
  go_wp2_with fail
  refine (specIsV_v ds b x _ _ _ _ (sd_of_own HO5.out HOK.out) HU.out).mono ?_
  rintro e w6 ⟨rfl, hb⟩
  have HC6 := Lib.hid (HC5.out.below hb)
  have HD6 := Lib.hid (HD5.out.below hb)
  have HO6 := Lib.hid (own_below HO5.out hb)
  have HG6 : Hid (w.grownBy w6 (some R)) := Lib.hid (HG5.out.trans (grown_of_below hb _))
  have HR6 := Lib.hid (HR5.out.below hb)
  clear hb HC5 HD5 HO5 HG5 HR5 d0 d1 e0 e1
  obtain ⟨c0, c1, f0, f1⟩ := HC6.out
  obtain ⟨d0, d1, e0, e1⟩ := HD6.out
  cases u
  · go_wp2
    refine bodyPost_ret (v := .tuple #[.agg #[.slice A' ds.length c, .int .i64 b], .int .i64 x, .int .i64 y]) (by simp [results, Try.results78, go_sem, c0, c1]) rfl ⟨A', c, ds, b, _, _, rfl, hn, HSM.out, HBD.out, ⟨by omega, by omega⟩, ⟨by omega, by omega⟩, ?_, ?_⟩
    · exact own_setCell (own_setCell (own_base HO6.out (by omega)) (fun e => by have := (HO6.out.lt _ e).1; simp only at *; omega) _) (fun e => by have := (HO6.out.lt _ e).1; simp only at *; omega) _
    · exact grown_set (grown_set HG6.out (Nat.le_refl _) _) (Nat.le_refl _) _
  obtain ⟨v, hv⟩ : ∃ v, mIsV ds b y = v := ⟨_, rfl⟩
  have HV := Lib.hid hv
  clear hv
  go_wp2_with fail
  refine (specIsV_v ds b y _ _ _ _ (sd_of_own HO6.out HOK.out) HV.out).mono ?_
  rintro e w7 ⟨rfl, hb⟩
  have HC7 := Lib.hid (HC6.out.below hb)
  have HD7 := Lib.hid (HD6.out.below hb)
  have HO7 := Lib.hid (own_below HO6.out hb)
  have HG7 : Hid (w.grownBy w7 (some R)) := Lib.hid (HG6.out.trans (grown_of_below hb _))
  have HR7 := Lib.hid (HR6.out.below hb)
  clear hb HC6 HD6 HO6 HG6 HR6 c0 c1 f0 f1 d0 d1 e0 e1
  obtain ⟨c0, c1, f0, f1⟩ := HC7.out
  obtain ⟨d0, d1, e0, e1⟩ := HD7.out
  cases v
  · go_wp2
    refine bodyPost_ret (v := .tuple #[.agg #[.slice A' ds.length c, .int .i64 b], .int .i64 x, .int .i64 y]) (by simp [results, Try.results78, go_sem, c0, c1]) rfl ⟨A', c, ds, b, _, _, rfl, hn, HSM.out, HBD.out, ⟨by omega, by omega⟩, ⟨by omega, by omega⟩, ?_, ?_⟩
    · exact own_setCell (own_setCell (own_base HO7.out (by omega)) (fun e => by have := (HO7.out.lt _ e).1; simp only at *; omega) _) (fun e => by have := (HO7.out.lt _ e).1; simp only at *; omega) _
    · exact grown_set (grown_set HG7.out (Nat.le_refl _) _) (Nat.le_refl _) _
  go_wp2_with fail
  refine (pick_any 4 R B A cb zs p5 _ HR7.out (by omega) (by omega) (by omega)).mono ?_
  rintro e w8 ⟨q, rfl, qa, qb, hg, hr⟩
  have HC8 := Lib.hid (HC7.out.grown hg (by simpa using hwR))
  have HD8 := Lib.hid (HD7.out.grown hg (by simpa using hGR))
  have HO8 := Lib.hid (HO7.out.kept hg (own_neR HO7.out (by omega)))
  have HG8 : Hid (w.grownBy w8 (some R)) := Lib.hid (HG7.out.trans hg)
  clear hg hr HC7 HD7 HO7 HG7 HR7 c0 c1 f0 f1 d0 d1 e0 e1 qb
  obtain ⟨c0, c1, f0, f1⟩ := HC8.out
  obtain ⟨d0, d1, e0, e1⟩ := HD8.out
  by_cases h0 : q = 0
  · subst h0
    obtain ⟨m, rfl, hm4⟩ := mIsV_nat HU.out
    obtain ⟨k, rfl, hk4⟩ := mIsV_nat HV.out
    obtain ⟨z, hz⟩ : ∃ z, m &&& k = z := ⟨_, rfl⟩
    have hz4 : z < 4096 := by rw [← hz]; exact and_lt hm4
    have HZ := Lib.hid hz
    clear hz
    go_wp2_with (go_at_call 116; refine (both_v m k _ hm4 hk4 HZ.out).mono ?_; rintro e w' ⟨rfl, rfl⟩)
    refine bodyPost_ret (v := .tuple #[.agg #[.slice A' ds.length c, .int .i64 b], .int .i64 m, .int .i64 z]) (by simp [results, Try.results78, go_sem, c0, c1]) rfl ⟨A', c, ds, b, _, _, rfl, hn, HSM.out, HBD.out, ⟨by omega, by omega⟩, ⟨by omega, by omega⟩, ?_, ?_⟩
    · exact own_setCell (own_setCell (own_base HO8.out (by omega)) (fun e => by have := (HO8.out.lt _ e).1; simp only at *; omega) _) (fun e => by have := (HO8.out.lt _ e).1; simp only at *; omega) _
    · exact grown_set (grown_set HG8.out (Nat.le_refl _) _) (Nat.le_refl _) _
  · have e2 : (q == 0) = false := beq_eq_false_iff_ne.2 h0
    go_wp2
    refine bodyPost_ret (v := .tuple #[.agg #[.slice A' ds.length c, .int .i64 b], .int .i64 x, .int .i64 y]) (by simp [results, Try.results78, go_sem, c0, c1]) rfl ⟨A', c, ds, b, _, _, rfl, hn, HSM.out, HBD.out, ⟨by omega, by omega⟩, ⟨by omega, by omega⟩, ?_, ?_⟩
    · exact own_setCell (own_setCell (own_base HO8.out (by omega)) (fun e => by have := (HO8.out.lt _ e).1; simp only at *; omega) _) (fun e => by have := (HO8.out.lt _ e).1; simp only at *; omega) _
    · exact grown_set (grown_set HG8.out (Nat.le_refl _) _) (Nat.le_refl _) _
set_option maxHeartbeats 2000000 in
theorem drawOrValues_any (A : Option Addr) (n c : Nat) (zs : List Int) (w : World) (h : SB w w.heap.size A n c zs) :
    Calls Try.prog 24 #[.slice A n c] w (DrawFNN w) := by
  have HS := Lib.hid h
  clear h
  go_enter Try.func24, Try.ntmps24
  go_wp2_with fail
  refine (newReader_any A n c zs _ (HS.out.allocF _)).mono ?_
  rintro e w1 ⟨R, A1, cb, z1, rfl, hR, hr, hb⟩
  have hwR : w.heap.size ≠ R := by simp at hR; omega
  have HC1 : Hid (C2 w1 w.heap.size (.slice none 0 0) (.int .i64 0)) := Lib.hid ((c2New _ _ _ _).below hb)
  have HB : Hid (Below w.heap.size w w1) := Lib.hid (((Below.refl _ _).alloc (Nat.le_refl _) _).trans (hb.mono (by simp)))
  have HR1 := Lib.hid hr
  have hRl : w.heap.size + 1 ≤ R := by simpa using hR
  clear hr hb hR
  go_wp2_with fail
  refine (valuesIn_any R _ A1 cb z1 0 _ HR1.out (by omega)).mono ?_
  rintro e w2 ⟨A', c', ds, b, x, y, rfl, hn, hsm, hbd, hx, hy, hown, hg⟩
  have HC2 := Lib.hid (HC1.out.grown hg (by simpa using hwR))
  have HG2 : Hid (w1.grownBy w2 (some R)) := Lib.hid hg
  have HO2 := Lib.hid hown
  have HSM := Lib.hid hsm
  have HBD := Lib.hid hbd
  have HR2l : Hid (R < w1.heap.size) := Lib.hid HR1.out.lt
  clear hg hown hsm hbd HC1 HR1
  obtain ⟨c0, c1, f0, f1⟩ := HC2.out
  go_wp2
  refine bodyPost_ret (v := .tuple #[.agg #[.slice A' ds.length c', .int .i64 b], .int .i64 x, .int .i64 y]) (by simp [results, Try.results24, go_sem, c0, c1]) rfl ⟨A', c', ds, b, x, y, rfl, hn, HSM.out, HBD.out, hx, hy, ?_, ?_⟩
  · exact sd_of_own (own_setCell (own_setCell HO2.out (fun e => by have := (HO2.out.lt _ e).1; have := HR2l.out; simp only at *; omega) _) (fun e => by have := (HO2.out.lt _ e).1; have := HR2l.out; simp only at *; omega) _) (fun d hd => small_ok (HSM.out d hd))
  · exact ((HB.out.grown HG2.out HB.out.size (fun k hk => by cases hk; omega)).setCell (Nat.le_refl _) _).setCell (Nat.le_refl _) _
set_option maxHeartbeats 2000000 in
theorem drawCompareValues_any (A : Option Addr) (n c : Nat) (zs : List Int) (w : World) (h : SB w w.heap.size A n c zs) :
    Calls Try.prog 36 #[.slice A n c] w (DrawFNN w) := by
  have HS := Lib.hid h
  clear h
  go_enter Try.func36, Try.ntmps36
  go_wp2_with fail
  refine (newReader_any A n c zs _ (HS.out.allocF _)).mono ?_
  rintro e w1 ⟨R, A1, cb, z1, rfl, hR, hr, hb⟩
  have hwR : w.heap.size ≠ R := by simp at hR; omega
  have HC1 : Hid (C2 w1 w.heap.size (.slice none 0 0) (.int .i64 0)) := Lib.hid ((c2New _ _ _ _).below hb)
  have HB : Hid (Below w.heap.size w w1) := Lib.hid (((Below.refl _ _).alloc (Nat.le_refl _) _).trans (hb.mono (by simp)))
  have HR1 := Lib.hid hr
  have hRl : w.heap.size + 1 ≤ R := by simpa using hR
  clear hr hb hR
  go_wp2_with fail
  refine (valuesIn_any R _ A1 cb z1 0 _ HR1.out (by omega)).mono ?_
  rintro e w2 ⟨A', c', ds, b, x, y, rfl, hn, hsm, hbd, hx, hy, hown, hg⟩
  have HC2 := Lib.hid (HC1.out.grown hg (by simpa using hwR))
  have HG2 : Hid (w1.grownBy w2 (some R)) := Lib.hid hg
  have HO2 := Lib.hid hown
  have HSM := Lib.hid hsm
  have HBD := Lib.hid hbd
  have HR2l : Hid (R < w1.heap.size) := Lib.hid HR1.out.lt
  clear hg hown hsm hbd HC1 HR1
  obtain ⟨c0, c1, f0, f1⟩ := HC2.out
  go_wp2
  refine bodyPost_ret (v := .tuple #[.agg #[.slice A' ds.length c', .int .i64 b], .int .i64 x, .int .i64 y]) (by simp [results, Try.results36, go_sem, c0, c1]) rfl ⟨A', c', ds, b, x, y, rfl, hn, HSM.out, HBD.out, hx, hy, ?_, ?_⟩
  · exact sd_of_own (own_setCell (own_setCell HO2.out (fun e => by have := (HO2.out.lt _ e).1; have := HR2l.out; simp only at *; omega) _) (fun e => by have := (HO2.out.lt _ e).1; have := HR2l.out; simp only at *; omega) _) (fun d hd => small_ok (HSM.out d hd))
  · exact ((HB.out.grown HG2.out HB.out.size (fun k hk => by cases hk; omega)).setCell (Nat.le_refl _) _).setCell (Nat.le_refl _) _
end Go.Proofs.Ytmahjggkiikmgaa
