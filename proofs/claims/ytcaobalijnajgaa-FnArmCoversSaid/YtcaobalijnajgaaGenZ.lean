import Derived.Test.YtcaobalijnajgaaGenY
import Derived.Test.YtcaobalijnajgaaLArm
import Derived.Deep.RegionLaw
import Derived.Deep.DeepCutAuto
namespace Go.Proofs.Ytcaobalijnajgaa
open Go.RowKit
set_option linter.unusedVariables false
set_option linter.unusedSimpArgs false
set_option maxRecDepth 100000

/-- A drawn class and two arms. -/
def DrawFAA (w : World) (e : Ending) (w' : World) : Prop :=
  ∃ (A : Option Addr) (c : Nat) (ds : List D) (b x y x2 y2 : Int), e = .returned (.tuple #[.agg #[.slice A ds.length c, .int .i64 b], .agg #[.int .i64 x, .int .i64 y], .agg #[.int .i64 x2, .int .i64 y2]]) ∧ ds.length ≤ 13 ∧ (∀ d ∈ ds, d.small) ∧ (-1 ≤ b ∧ b ≤ 4) ∧ (-60000 ≤ x ∧ x ≤ 60000) ∧ (-60000 ≤ y ∧ y ≤ 60000) ∧ (-60000 ≤ x2 ∧ x2 ≤ 60000) ∧ (-60000 ≤ y2 ∧ y2 ≤ 60000) ∧ SD w' w'.heap.size A ds.length c ds ∧ Below w.heap.size w w'
/-- What twoArms makes: the class in a row of its own, and two arms. -/
def GenFAA (R : Nat) (w : World) (e : Ending) (w' : World) : Prop :=
  ∃ (A' : Option Addr) (c : Nat) (ds : List D) (b x y x2 y2 : Int), e = .returned (.tuple #[.agg #[.slice A' ds.length c, .int .i64 b], .agg #[.int .i64 x, .int .i64 y], .agg #[.int .i64 x2, .int .i64 y2]]) ∧ ds.length ≤ 13 ∧ (∀ d ∈ ds, d.small) ∧ (-1 ≤ b ∧ b ≤ 4) ∧ (-60000 ≤ x ∧ x ≤ 60000) ∧ (-60000 ≤ y ∧ y ≤ 60000) ∧ (-60000 ≤ x2 ∧ x2 ≤ 60000) ∧ (-60000 ≤ y2 ∧ y2 ≤ 60000) ∧
    w'.ownsRow w.heap.size 104 2 (.slice A' ds.length c) ds.length (flat ds) ∧ w.grownBy w' (some R)
set_option maxHeartbeats 16000000 in
theorem twoArms_any (R B : Nat) (A : Option Addr) (cb : Nat) (zs : List Int) (p : Nat) (w : World) (h : Rdr w R B A cb zs p) (hp : p + 300 ≤ 100000) :
    Calls Try.prog 52 #[.pointer (some ⟨R, 0, none⟩)] w (GenFAA R w) := by
  have hRw := h.lt
  obtain ⟨w1, hw⟩ : ∃ W : World, W = ((w.alloc (.cells #[.slice none 0 0, .int .i64 0] 25)).alloc (.cells #[.int .i64 0, .int .i64 0] 27)).alloc (.cells #[.int .i64 0, .int .i64 0] 27) := ⟨_, rfl⟩
  have hb : Below w.heap.size w w1 := by rw [hw]; exact (((Below.refl _ _).alloc (Nat.le_refl _) _).alloc (by simp) _).alloc (by simp; omega) _
  have hz1 : w1.heap.size = w.heap.size + 1 + 1 + 1 := by rw [hw]; simp
  have HC1 : Hid (C2 w1 w.heap.size (.slice none 0 0) (.int .i64 0)) := Lib.hid (by rw [hw]; exact ((c2New _ _ _ _).below ((Below.refl _ _).alloc (Nat.le_refl _) _)).below ((Below.refl _ _).alloc (Nat.le_refl _) _))
  have HE1 : Hid (C2 w1 (w.heap.size + 1) (.int .i64 0) (.int .i64 0)) := Lib.hid (by rw [hw]; exact (c2New' _ _ _ _ _).below ((Below.refl _ _).alloc (Nat.le_refl _) _))
  have HH1 : Hid (C2 w1 (w.heap.size + 1 + 1) (.int .i64 0) (.int .i64 0)) := Lib.hid (by rw [hw]; have := c2New ((w.alloc (.cells #[.slice none 0 0, .int .i64 0] 25)).alloc (.cells #[.int .i64 0, .int .i64 0] 27)) (.int .i64 0) (.int .i64 0) 27; simpa using this)
  have HR1 := Lib.hid (h.below hb)
  have HG1 : Hid (w.grownBy w1 (some R)) := Lib.hid (grown_of_below hb _)
  have HW := Lib.hid hw.symm
  have r0 : w.heap.size ≠ R := by omega
  have r1 : w.heap.size + 1 ≠ R := by omega
  have r2 : w.heap.size + 1 + 1 ≠ R := by omega
  clear hb hw h
  go_enter Try.func52, Try.ntmps52
  go_wp2_with fail
  rw [HW.out]
  clear HW
  refine (armIn_any R B A cb zs p _ HR1.out (by omega)).mono ?_
  rintro e w2 ⟨A', c, ds, b, x, y, p', rfl, hn, hsm, hbd, hx, hy, hown, hp', hg, hr⟩
  have hz2 : w1.heap.size ≤ w2.heap.size := hg.size
  have HC2 := Lib.hid (HC1.out.grown hg (by simpa using r0))
  have HE2 := Lib.hid (HE1.out.grown hg (by simpa using r1))
  have HH2 := Lib.hid (HH1.out.grown hg (by simpa using r2))
  have HO2 := Lib.hid (own_base hown (show w.heap.size + 3 ≤ _ by omega))
  have HG2 : Hid (w.grownBy w2 (some R)) := Lib.hid (HG1.out.trans hg)
  have HR2 := Lib.hid hr
  have HSM := Lib.hid hsm
  have HBD := Lib.hid hbd
  have HX12 := Lib.hid (And.intro hx hy)
  clear hg hown hr hsm hbd HC1 HE1 HH1 HG1 HR1 hx hy
  obtain ⟨w3, hw⟩ : ∃ W : World, W = (w2.alloc (.cells #[.slice A' ds.length c, .int .i64 b] 25)).alloc (.cells #[.int .i64 x, .int .i64 y] 27) := ⟨_, rfl⟩
  have hb : Below w2.heap.size w2 w3 := by rw [hw]; exact ((Below.refl _ _).alloc (Nat.le_refl _) _).alloc (by simp) _
  have hz3 : w3.heap.size = w2.heap.size + 1 + 1 := by rw [hw]; simp
  have HF3 : Hid (C2 w3 w2.heap.size (.slice A' ds.length c) (.int .i64 b)) := Lib.hid (by rw [hw]; exact (c2New _ _ _ _).below ((Below.refl _ _).alloc (Nat.le_refl _) _))
  have HA3 : Hid (C2 w3 (w2.heap.size + 1) (.int .i64 x) (.int .i64 y)) := Lib.hid (by rw [hw]; exact c2New' _ _ _ _ _)
  have HC3 := Lib.hid (HC2.out.below hb)
  have HE3 := Lib.hid (HE2.out.below hb)
  have HH3 := Lib.hid (HH2.out.below hb)
  have HO3 := Lib.hid (own_below HO2.out hb)
  have HG3 : Hid (w.grownBy w3 (some R)) := Lib.hid (HG2.out.trans (grown_of_below hb _))
  have HR3 := Lib.hid (HR2.out.below hb)
  have d0 := HF3.out.c0
  have d1 := HF3.out.c1
  rw [hw] at d0 d1
  have HW := Lib.hid hw.symm
  clear hb hw HC2 HE2 HH2 HO2 HG2 HR2
  go_wp2_with fail
  rw [HW.out]
  clear HW d0 d1
  have hgs : w.heap.size + 1 + 1 + 1 ≤ w2.heap.size := by omega
  generalize hG : w2.heap.size = G at *
  clear hG hz2
  have r3 : G ≠ R := by omega
  have r4 : G + 1 ≠ R := by omega
  refine (someArm_any R B A cb zs p' ds b A' ds.length c (w.heap.size + 3) _ HR3.out (by omega) HO3.out HSM.out (by omega)).mono ?_
  rintro e w4 ⟨x2, y2, p4, rfl, hx, hy, hp4, hg, hr⟩
  have HC4 := Lib.hid (HC3.out.grown hg (by simpa using r0))
  have HE4 := Lib.hid (HE3.out.grown hg (by simpa using r1))
  have HH4 := Lib.hid (HH3.out.grown hg (by simpa using r2))
  have HF4 := Lib.hid (HF3.out.grown hg (by simpa using r3))
  have HA4 := Lib.hid (HA3.out.grown hg (by simpa using r4))
  have HO4 := Lib.hid (HO3.out.kept hg (own_neR HO3.out (by omega)))
  have HG4 : Hid (w.grownBy w4 (some R)) := Lib.hid (HG3.out.trans hg)
  have HR4 := Lib.hid hr
  have HX34 := Lib.hid (And.intro hx hy)
  have NX0 : Hid ((Value.slice A' ds.length c).ownBlock ≠ some w4.heap.size) := Lib.hid (fun e => by have := (HO4.out.lt _ e).2; omega)
  have hz4 : G + 1 + 1 ≤ w4.heap.size := by have := hg.size; omega
  clear hg hr HC3 HE3 HH3 HF3 HA3 HO3 HG3 HR3 hx hy
  obtain ⟨w5, hw⟩ : ∃ W : World, W = w4.alloc (.cells #[.int .i64 x2, .int .i64 y2] 27) := ⟨_, rfl⟩
  have hb : Below w4.heap.size w4 w5 := by rw [hw]; exact (Below.refl _ _).alloc (Nat.le_refl _) _
  have HX5 : Hid (C2 w5 w4.heap.size (.int .i64 x2) (.int .i64 y2)) := Lib.hid (by rw [hw]; exact c2New _ _ _ _)
  have HC5 := Lib.hid (HC4.out.below hb)
  have HE5 := Lib.hid (HE4.out.below hb)
  have HH5 := Lib.hid (HH4.out.below hb)
  have HF5 := Lib.hid (HF4.out.below hb)
  have HA5 := Lib.hid (HA4.out.below hb)
  have HO5 := Lib.hid (own_below HO4.out hb)
  have HG5 : Hid (w.grownBy w5 (some R)) := Lib.hid (HG4.out.trans (grown_of_below hb _))
  have HR5 := Lib.hid (HR4.out.below hb)
  have d0 := HF5.out.c0
  have d1 := HF5.out.c1
  have a0 := HA5.out.c0
  have a1 := HA5.out.c1
  rw [hw] at d0 d1 a0 a1
  have HW := Lib.hid hw.symm
  clear hb hw HC4 HE4 HH4 HF4 HA4 HO4 HG4 HR4
  go_wp2_with fail
  rw [HW.out]
  clear HW d0 d1 a0 a1
  have NXX := NX0
  clear NX0
  generalize hX : w4.heap.size = X at *
  clear hX
  have n1 : G + 1 ≠ X := by omega
  have n2 : X ≠ G + 1 := by omega
  have n3 : G ≠ X := by omega
  have n4 : X ≠ G := by omega
  have r5 : X ≠ R := by omega
  have k0 : w.heap.size ≠ G := by omega
  have l0 : G ≠ w.heap.size := by omega
  have k1 : w.heap.size ≠ G + 1 := by omega
  have l1 : G + 1 ≠ w.heap.size := by omega
  have k2 : w.heap.size ≠ X := by omega
  have l2 : X ≠ w.heap.size := by omega
  have k3 : w.heap.size + 1 ≠ G := by omega
  have l3 : G ≠ w.heap.size + 1 := by omega
  have k4 : w.heap.size + 1 ≠ G + 1 := by omega
  have l4 : G + 1 ≠ w.heap.size + 1 := by omega
  have k5 : w.heap.size + 1 ≠ X := by omega
  have l5 : X ≠ w.heap.size + 1 := by omega
  have k6 : w.heap.size + 1 + 1 ≠ G := by omega
  have l6 : G ≠ w.heap.size + 1 + 1 := by omega
  have k7 : w.heap.size + 1 + 1 ≠ G + 1 := by omega
  have l7 : G + 1 ≠ w.heap.size + 1 + 1 := by omega
  have k8 : w.heap.size + 1 + 1 ≠ X := by omega
  have l8 : X ≠ w.heap.size + 1 + 1 := by omega
  obtain ⟨v1, hv1⟩ : ∃ v, mArm ds b ⟨x, y⟩ = v := ⟨_, rfl⟩
  obtain ⟨v2, hv2⟩ : ∃ v, mArm ds b ⟨x2, y2⟩ = v := ⟨_, rfl⟩
  have HV1 := Lib.hid hv1
  have HV2 := Lib.hid hv2
  have NO0 : Hid ((Value.slice A' ds.length c).ownBlock ≠ some w.heap.size) := Lib.hid (fun e => by have := (HO5.out.lt _ e).1; omega)
  have NO1 : Hid ((Value.slice A' ds.length c).ownBlock ≠ some (w.heap.size + 1)) := Lib.hid (fun e => by have := (HO5.out.lt _ e).1; omega)
  have NO2 : Hid ((Value.slice A' ds.length c).ownBlock ≠ some (w.heap.size + 1 + 1)) := Lib.hid (fun e => by have := (HO5.out.lt _ e).1; omega)
  have z01 : w.heap.size ≠ w.heap.size + 1 := by omega
  have z02 : w.heap.size ≠ w.heap.size + 1 + 1 := by omega
  have z10 : w.heap.size + 1 ≠ w.heap.size := by omega
  have z12 : w.heap.size + 1 ≠ w.heap.size + 1 + 1 := by omega
  have z20 : w.heap.size + 1 + 1 ≠ w.heap.size := by omega
  have z21 : w.heap.size + 1 + 1 ≠ w.heap.size + 1 := by omega
  have qq0 : w.heap.size ≤ w.heap.size := Nat.le_refl _
  have qq1 : w.heap.size ≤ w.heap.size + 1 := by omega
  have qq2 : w.heap.size ≤ w.heap.size + 1 + 1 := by omega
  have qq4 : w.heap.size ≤ X := by omega
  have qq3 : w.heap.size ≤ w.heap.size + 3 := by omega
  have HOK : Hid (∀ d ∈ ds, d.ok) := Lib.hid fun d hd => small_ok (HSM.out d hd)
  clear hv1 hv2
  obtain ⟨c0, c1, cf0, cf1⟩ := HC5.out
  obtain ⟨e0, e1, ef0, ef1⟩ := HE5.out
  obtain ⟨h0, h1, hf0, hf1⟩ := HH5.out
  obtain ⟨f0, f1, ff0, ff1⟩ := HF5.out
  obtain ⟨a0, a1, af0, af1⟩ := HA5.out
  obtain ⟨x0, x1, xf0, xf1⟩ := HX5.out
  go_wp2_with fail
  clear c0 c1 cf0 cf1 e0 e1 ef0 ef1 h0 h1 hf0 hf1 f0 f1 ff0 ff1 a0 a1 af0 af1 x0 x1 xf0 xf1
  refine (validArm_v ds b _ _ _ _ _ _ (sd_of_own HO5.out HOK.out) HV1.out).mono ?_
  rintro e w6 ⟨rfl, hb⟩
  have HC6 := Lib.hid (HC5.out.below hb)
  have HE6 := Lib.hid (HE5.out.below hb)
  have HH6 := Lib.hid (HH5.out.below hb)
  have HF6 := Lib.hid (HF5.out.below hb)
  have HA6 := Lib.hid (HA5.out.below hb)
  have HX6 := Lib.hid (HX5.out.below hb)
  have HO6 := Lib.hid (own_below HO5.out hb)
  have HG6 : Hid (w.grownBy w6 (some R)) := Lib.hid (HG5.out.trans (grown_of_below hb _))
  have HR6 := Lib.hid (HR5.out.below hb)
  clear hb HC5 HE5 HH5 HF5 HA5 HX5 HO5 HG5 HR5
  cases v1
  · skip
    obtain ⟨c0, c1, cf0, cf1⟩ := HC6.out
    obtain ⟨e0, e1, ef0, ef1⟩ := HE6.out
    obtain ⟨h0, h1, hf0, hf1⟩ := HH6.out
    obtain ⟨f0, f1, ff0, ff1⟩ := HF6.out
    obtain ⟨a0, a1, af0, af1⟩ := HA6.out
    obtain ⟨x0, x1, xf0, xf1⟩ := HX6.out
    go_wp2_with fail
    go_region_held3 (fun w' => w'.cell? ⟨G, 0, none⟩ = some (.slice A' ds.length c) ∧ w'.cell? ⟨G, 1, none⟩ = some (.int .i64 b) ∧ w'.cell? ⟨G + 1, 0, none⟩ = some (.int .i64 x) ∧ w'.cell? ⟨G + 1, 1, none⟩ = some (.int .i64 y) ∧ w'.cell? ⟨X, 0, none⟩ = some (.int .i64 x2) ∧ w'.cell? ⟨X, 1, none⟩ = some (.int .i64 y2)) (first | go_keep | exact ⟨f0, f1, a0, a1, x0, x1⟩) (fail)
    go_wp2
    obtain ⟨W, hW⟩ : ∃ W : World, W = ((((((w6.setCell ⟨w.heap.size, 0, none⟩ (.slice A' ds.length c)).setCell ⟨w.heap.size, 1, none⟩ (.int .i64 b)).setCell ⟨w.heap.size + 1, 0, none⟩ (.int .i64 x)).setCell ⟨w.heap.size + 1, 1, none⟩ (.int .i64 y)).setCell ⟨w.heap.size + 1 + 1, 0, none⟩ (.int .i64 x2)).setCell ⟨w.heap.size + 1 + 1, 1, none⟩ (.int .i64 y2)).drew := ⟨_, rfl⟩
    have yC : C2 W w.heap.size (.slice A' ds.length c) (.int .i64 b) := by rw [hW]; exact (((((((HC6.out.set0 _).set1 _).setO z10 _).setO z10 _).setO z20 _).setO z20 _)).below (Below.refl _ _).drew
    have yE : C2 W (w.heap.size + 1) (.int .i64 x) (.int .i64 y) := by rw [hW]; exact (((((((HE6.out.setO z01 _).setO z01 _).set0 _).set1 _).setO z21 _).setO z21 _)).below (Below.refl _ _).drew
    have yH : C2 W (w.heap.size + 1 + 1) (.int .i64 x2) (.int .i64 y2) := by rw [hW]; exact (((((((HH6.out.setO z02 _).setO z02 _).setO z12 _).setO z12 _).set0 _).set1 _)).below (Below.refl _ _).drew
    have yO : W.ownsRow w.heap.size 104 2 (.slice A' ds.length c) ds.length (flat ds) := by rw [hW]; exact own_below (own_setCell (own_setCell (own_setCell (own_setCell (own_setCell (own_setCell (own_base HO6.out qq3) NO0.out _) NO0.out _) NO1.out _) NO1.out _) NO2.out _) NO2.out _) (Below.refl _ _).drew
    have yG : w.grownBy W (some R) := by rw [hW]; exact grown_drew (grown_set (grown_set (grown_set (grown_set (grown_set (grown_set (HG6.out) (by exact qq0) _) (by exact qq0) _) (by exact qq1) _) (by exact qq1) _) (by exact qq2) _) (by exact qq2) _)
    rw [← hW]
    clear hW
    obtain ⟨y0, y1, _, _⟩ := yC
    obtain ⟨y2', y3, _, _⟩ := yE
    obtain ⟨y4, y5, _, _⟩ := yH
    refine bodyPost_ret (v := .tuple #[.agg #[.slice A' ds.length c, .int .i64 b], .agg #[.int .i64 x, .int .i64 y], .agg #[.int .i64 x2, .int .i64 y2]]) (by simp [results, Try.results52, go_sem, y0, y1, y2', y3, y4, y5]) rfl ⟨A', c, ds, b, _, _, _, _, rfl, hn, HSM.out, HBD.out, HX12.out.1, HX12.out.2, HX34.out.1, HX34.out.2, yO, yG⟩
  obtain ⟨c0, c1, cf0, cf1⟩ := HC6.out
  obtain ⟨e0, e1, ef0, ef1⟩ := HE6.out
  obtain ⟨h0, h1, hf0, hf1⟩ := HH6.out
  obtain ⟨f0, f1, ff0, ff1⟩ := HF6.out
  obtain ⟨a0, a1, af0, af1⟩ := HA6.out
  obtain ⟨x0, x1, xf0, xf1⟩ := HX6.out
  go_wp2_with fail
  clear c0 c1 cf0 cf1 e0 e1 ef0 ef1 h0 h1 hf0 hf1 f0 f1 ff0 ff1 a0 a1 af0 af1 x0 x1 xf0 xf1
  refine (validArm_v ds b _ _ _ _ _ _ (sd_of_own HO6.out HOK.out) HV2.out).mono ?_
  rintro e w7 ⟨rfl, hb⟩
  have HC7 := Lib.hid (HC6.out.below hb)
  have HE7 := Lib.hid (HE6.out.below hb)
  have HH7 := Lib.hid (HH6.out.below hb)
  have HF7 := Lib.hid (HF6.out.below hb)
  have HA7 := Lib.hid (HA6.out.below hb)
  have HX7 := Lib.hid (HX6.out.below hb)
  have HO7 := Lib.hid (own_below HO6.out hb)
  have HG7 : Hid (w.grownBy w7 (some R)) := Lib.hid (HG6.out.trans (grown_of_below hb _))
  have HR7 := Lib.hid (HR6.out.below hb)
  clear hb HC6 HE6 HH6 HF6 HA6 HX6 HO6 HG6 HR6
  cases v2
  · skip
    obtain ⟨c0, c1, cf0, cf1⟩ := HC7.out
    obtain ⟨e0, e1, ef0, ef1⟩ := HE7.out
    obtain ⟨h0, h1, hf0, hf1⟩ := HH7.out
    obtain ⟨f0, f1, ff0, ff1⟩ := HF7.out
    obtain ⟨a0, a1, af0, af1⟩ := HA7.out
    obtain ⟨x0, x1, xf0, xf1⟩ := HX7.out
    go_wp2_with fail
    go_region_held3 (fun w' => w'.cell? ⟨G, 0, none⟩ = some (.slice A' ds.length c) ∧ w'.cell? ⟨G, 1, none⟩ = some (.int .i64 b) ∧ w'.cell? ⟨G + 1, 0, none⟩ = some (.int .i64 x) ∧ w'.cell? ⟨G + 1, 1, none⟩ = some (.int .i64 y) ∧ w'.cell? ⟨X, 0, none⟩ = some (.int .i64 x2) ∧ w'.cell? ⟨X, 1, none⟩ = some (.int .i64 y2)) (first | go_keep | exact ⟨f0, f1, a0, a1, x0, x1⟩) (fail)
    go_wp2
    obtain ⟨W, hW⟩ : ∃ W : World, W = ((((((w7.setCell ⟨w.heap.size, 0, none⟩ (.slice A' ds.length c)).setCell ⟨w.heap.size, 1, none⟩ (.int .i64 b)).setCell ⟨w.heap.size + 1, 0, none⟩ (.int .i64 x)).setCell ⟨w.heap.size + 1, 1, none⟩ (.int .i64 y)).setCell ⟨w.heap.size + 1 + 1, 0, none⟩ (.int .i64 x2)).setCell ⟨w.heap.size + 1 + 1, 1, none⟩ (.int .i64 y2)).drew := ⟨_, rfl⟩
    have yC : C2 W w.heap.size (.slice A' ds.length c) (.int .i64 b) := by rw [hW]; exact (((((((HC7.out.set0 _).set1 _).setO z10 _).setO z10 _).setO z20 _).setO z20 _)).below (Below.refl _ _).drew
    have yE : C2 W (w.heap.size + 1) (.int .i64 x) (.int .i64 y) := by rw [hW]; exact (((((((HE7.out.setO z01 _).setO z01 _).set0 _).set1 _).setO z21 _).setO z21 _)).below (Below.refl _ _).drew
    have yH : C2 W (w.heap.size + 1 + 1) (.int .i64 x2) (.int .i64 y2) := by rw [hW]; exact (((((((HH7.out.setO z02 _).setO z02 _).setO z12 _).setO z12 _).set0 _).set1 _)).below (Below.refl _ _).drew
    have yO : W.ownsRow w.heap.size 104 2 (.slice A' ds.length c) ds.length (flat ds) := by rw [hW]; exact own_below (own_setCell (own_setCell (own_setCell (own_setCell (own_setCell (own_setCell (own_base HO7.out qq3) NO0.out _) NO0.out _) NO1.out _) NO1.out _) NO2.out _) NO2.out _) (Below.refl _ _).drew
    have yG : w.grownBy W (some R) := by rw [hW]; exact grown_drew (grown_set (grown_set (grown_set (grown_set (grown_set (grown_set (HG7.out) (by exact qq0) _) (by exact qq0) _) (by exact qq1) _) (by exact qq1) _) (by exact qq2) _) (by exact qq2) _)
    rw [← hW]
    clear hW
    obtain ⟨y0, y1, _, _⟩ := yC
    obtain ⟨y2', y3, _, _⟩ := yE
    obtain ⟨y4, y5, _, _⟩ := yH
    refine bodyPost_ret (v := .tuple #[.agg #[.slice A' ds.length c, .int .i64 b], .agg #[.int .i64 x, .int .i64 y], .agg #[.int .i64 x2, .int .i64 y2]]) (by simp [results, Try.results52, go_sem, y0, y1, y2', y3, y4, y5]) rfl ⟨A', c, ds, b, _, _, _, _, rfl, hn, HSM.out, HBD.out, HX12.out.1, HX12.out.2, HX34.out.1, HX34.out.2, yO, yG⟩
  obtain ⟨c0, c1, cf0, cf1⟩ := HC7.out
  obtain ⟨e0, e1, ef0, ef1⟩ := HE7.out
  obtain ⟨h0, h1, hf0, hf1⟩ := HH7.out
  obtain ⟨f0, f1, ff0, ff1⟩ := HF7.out
  obtain ⟨a0, a1, af0, af1⟩ := HA7.out
  obtain ⟨x0, x1, xf0, xf1⟩ := HX7.out
  go_wp2_with fail
  clear c0 c1 cf0 cf1 e0 e1 ef0 ef1 h0 h1 hf0 hf1 f0 f1 ff0 ff1 a0 a1 af0 af1 x0 x1 xf0 xf1
  refine (pick_any 2 R B A cb zs p4 _ HR7.out (by omega) (by omega) (by omega)).mono ?_
  rintro e w8 ⟨k, rfl, ka, kb, hg, hr⟩
  have HC8 := Lib.hid (HC7.out.grown hg (by simpa using r0))
  have HE8 := Lib.hid (HE7.out.grown hg (by simpa using r1))
  have HH8 := Lib.hid (HH7.out.grown hg (by simpa using r2))
  have HF8 := Lib.hid (HF7.out.grown hg (by simpa using r3))
  have HA8 := Lib.hid (HA7.out.grown hg (by simpa using r4))
  have HX8 := Lib.hid (HX7.out.grown hg (by simpa using r5))
  have HO8 := Lib.hid (HO7.out.kept hg (own_neR HO7.out (by omega)))
  have HG8 : Hid (w.grownBy w8 (some R)) := Lib.hid (HG7.out.trans hg)
  have HR8 := Lib.hid (hr)
  clear hg hr HC7 HE7 HH7 HF7 HA7 HX7 HO7 HG7 HR7
  by_cases hk : k = 0
  · subst hk
    obtain ⟨p, q, rfl, rfl, hp4', hq4, bp, bq, dp, HFLp⟩ := arm_nat HV1.out
    obtain ⟨r, s, rfl, rfl, hr4, hs4, br, bs, dr, HFLr⟩ := arm_nat HV2.out
    obtain ⟨l, ql⟩ : ∃ l, nl r q = l := ⟨_, rfl⟩
    have hl4 : l < 4096 := by rw [← ql]; exact nl_lt hr4
    obtain ⟨o, qo⟩ : ∃ o, p ||| l = o := ⟨_, rfl⟩
    have ho4 : o < 4096 := by rw [← qo]; exact or_lt hp4' hl4
    have QL := Lib.hid ql
    have QO := Lib.hid qo
    clear ql qo bp bq dp HFLp br bs dr HFLr kb
    obtain ⟨c0, c1, cf0, cf1⟩ := HC8.out
    obtain ⟨e0, e1, ef0, ef1⟩ := HE8.out
    obtain ⟨h0, h1, hf0, hf1⟩ := HH8.out
    obtain ⟨f0, f1, ff0, ff1⟩ := HF8.out
    obtain ⟨a0, a1, af0, af1⟩ := HA8.out
    obtain ⟨x0, x1, xf0, xf1⟩ := HX8.out
    go_upto_region 4 with fail
    go_cut [39] (fun s wx => s = .agg #[.int .i64 o, .int .i64 q] ∧ wx = ((w8.setCell ⟨X, 0, none⟩ (.int .i64 o)).setCell ⟨X, 1, none⟩ (.int .i64 q)).drew)
    case first =>
      go_region_law (first | (go_simp; go_at_call 73; refine (less_any r q _ hr4 hq4 QL.out).mono ?_; rintro e w' ⟨rfl, rfl⟩) | (go_simp; go_at_call 84; refine (either_any p l _ hp4' hl4 QO.out).mono ?_; rintro e w' ⟨rfl, rfl⟩))
      all_goals
        go_wp2_with fail
        go_meet
        exact ⟨rfl, rfl⟩
    case rest =>
      obtain ⟨hs, hwc⟩ := hcut
      subst hs
      clear c0 c1 cf0 cf1 e0 e1 ef0 ef1 h0 h1 hf0 hf1 f0 f1 ff0 ff1 a0 a1 af0 af1 x0 x1 xf0 xf1
      obtain ⟨w9, e9⟩ : ∃ W : World, W = wc := ⟨_, rfl⟩
      have HC9 := Lib.hid (show C2 w9 _ _ _ by rw [e9, hwc]; exact ((HC8.out.setO (by exact l2) _).setO (by exact l2) _).below (Below.refl _ _).drew)
      have HE9 := Lib.hid (show C2 w9 _ _ _ by rw [e9, hwc]; exact ((HE8.out.setO (by exact l5) _).setO (by exact l5) _).below (Below.refl _ _).drew)
      have HH9 := Lib.hid (show C2 w9 _ _ _ by rw [e9, hwc]; exact ((HH8.out.setO (by exact l8) _).setO (by exact l8) _).below (Below.refl _ _).drew)
      have HF9 := Lib.hid (show C2 w9 _ _ _ by rw [e9, hwc]; exact ((HF8.out.setO (by exact n4) _).setO (by exact n4) _).below (Below.refl _ _).drew)
      have HA9 := Lib.hid (show C2 w9 _ _ _ by rw [e9, hwc]; exact ((HA8.out.setO (by exact n2) _).setO (by exact n2) _).below (Below.refl _ _).drew)
      have HX9 : Hid (C2 w9 X (.int .i64 o) (.int .i64 q)) := Lib.hid (by rw [e9, hwc]; exact ((HX8.out.set0 _).set1 _).below (Below.refl _ _).drew)
      have NX : Hid ((Value.slice A' ds.length c).ownBlock ≠ some X) := Lib.hid NXX.out
      have HO9 := Lib.hid (show w9.ownsRow _ _ _ _ _ _ by rw [e9, hwc]; exact own_below (own_setCell (own_setCell HO8.out NX.out _) NX.out _) (Below.refl _ _).drew)
      have HG9 : Hid (w.grownBy w9 (some R)) := Lib.hid (by rw [e9, hwc]; exact grown_drew (grown_set (grown_set HG8.out (by exact qq4) _) (by exact qq4) _))
      rw [← e9]
      clear e9 hwc
      clear HC8 HE8 HH8 HF8 HA8 HX8 HO8 HG8 HR8
      obtain ⟨c0, c1, cf0, cf1⟩ := HC9.out
      obtain ⟨e0, e1, ef0, ef1⟩ := HE9.out
      obtain ⟨h0, h1, hf0, hf1⟩ := HH9.out
      obtain ⟨f0, f1, ff0, ff1⟩ := HF9.out
      obtain ⟨a0, a1, af0, af1⟩ := HA9.out
      obtain ⟨x0, x1, xf0, xf1⟩ := HX9.out
      go_wp2_with fail
      go_region_held3 (fun w' => w'.cell? ⟨G, 0, none⟩ = some (.slice A' ds.length c) ∧ w'.cell? ⟨G, 1, none⟩ = some (.int .i64 b) ∧ w'.cell? ⟨G + 1, 0, none⟩ = some (.int .i64 p) ∧ w'.cell? ⟨G + 1, 1, none⟩ = some (.int .i64 q) ∧ w'.cell? ⟨X, 0, none⟩ = some (.int .i64 o) ∧ w'.cell? ⟨X, 1, none⟩ = some (.int .i64 q)) (first | go_keep | exact ⟨f0, f1, a0, a1, x0, x1⟩) (fail)
      go_wp2
      obtain ⟨W, hW⟩ : ∃ W : World, W = ((((((w9.setCell ⟨w.heap.size, 0, none⟩ (.slice A' ds.length c)).setCell ⟨w.heap.size, 1, none⟩ (.int .i64 b)).setCell ⟨w.heap.size + 1, 0, none⟩ (.int .i64 p)).setCell ⟨w.heap.size + 1, 1, none⟩ (.int .i64 q)).setCell ⟨w.heap.size + 1 + 1, 0, none⟩ (.int .i64 o)).setCell ⟨w.heap.size + 1 + 1, 1, none⟩ (.int .i64 q)).drew := ⟨_, rfl⟩
      have yC : C2 W w.heap.size (.slice A' ds.length c) (.int .i64 b) := by rw [hW]; exact (((((((HC9.out.set0 _).set1 _).setO z10 _).setO z10 _).setO z20 _).setO z20 _)).below (Below.refl _ _).drew
      have yE : C2 W (w.heap.size + 1) (.int .i64 p) (.int .i64 q) := by rw [hW]; exact (((((((HE9.out.setO z01 _).setO z01 _).set0 _).set1 _).setO z21 _).setO z21 _)).below (Below.refl _ _).drew
      have yH : C2 W (w.heap.size + 1 + 1) (.int .i64 o) (.int .i64 q) := by rw [hW]; exact (((((((HH9.out.setO z02 _).setO z02 _).setO z12 _).setO z12 _).set0 _).set1 _)).below (Below.refl _ _).drew
      have yO : W.ownsRow w.heap.size 104 2 (.slice A' ds.length c) ds.length (flat ds) := by rw [hW]; exact own_below (own_setCell (own_setCell (own_setCell (own_setCell (own_setCell (own_setCell (own_base HO9.out qq3) NO0.out _) NO0.out _) NO1.out _) NO1.out _) NO2.out _) NO2.out _) (Below.refl _ _).drew
      have yG : w.grownBy W (some R) := by rw [hW]; exact grown_drew (grown_set (grown_set (grown_set (grown_set (grown_set (grown_set (HG9.out) (by exact qq0) _) (by exact qq0) _) (by exact qq1) _) (by exact qq1) _) (by exact qq2) _) (by exact qq2) _)
      rw [← hW]
      clear hW
      obtain ⟨y0, y1, _, _⟩ := yC
      obtain ⟨y2', y3, _, _⟩ := yE
      obtain ⟨y4, y5, _, _⟩ := yH
      refine bodyPost_ret (v := .tuple #[.agg #[.slice A' ds.length c, .int .i64 b], .agg #[.int .i64 p, .int .i64 q], .agg #[.int .i64 o, .int .i64 q]]) (by simp [results, Try.results52, go_sem, y0, y1, y2', y3, y4, y5]) rfl ⟨A', c, ds, b, _, _, _, _, rfl, hn, HSM.out, HBD.out, HX12.out.1, HX12.out.2, ⟨by omega, by omega⟩, ⟨by omega, by omega⟩, yO, yG⟩
  have kn : (k == 0) = false := by rw [beq_eq_false_iff_ne]; exact hk
  obtain ⟨c0, c1, cf0, cf1⟩ := HC8.out
  obtain ⟨e0, e1, ef0, ef1⟩ := HE8.out
  obtain ⟨h0, h1, hf0, hf1⟩ := HH8.out
  obtain ⟨f0, f1, ff0, ff1⟩ := HF8.out
  obtain ⟨a0, a1, af0, af1⟩ := HA8.out
  obtain ⟨x0, x1, xf0, xf1⟩ := HX8.out
  go_wp2_with fail
  go_region_held3 (fun w' => w'.cell? ⟨G, 0, none⟩ = some (.slice A' ds.length c) ∧ w'.cell? ⟨G, 1, none⟩ = some (.int .i64 b) ∧ w'.cell? ⟨G + 1, 0, none⟩ = some (.int .i64 x) ∧ w'.cell? ⟨G + 1, 1, none⟩ = some (.int .i64 y) ∧ w'.cell? ⟨X, 0, none⟩ = some (.int .i64 x2) ∧ w'.cell? ⟨X, 1, none⟩ = some (.int .i64 y2)) (first | go_keep | exact ⟨f0, f1, a0, a1, x0, x1⟩) (fail)
  go_wp2
  obtain ⟨W, hW⟩ : ∃ W : World, W = ((((((w8.setCell ⟨w.heap.size, 0, none⟩ (.slice A' ds.length c)).setCell ⟨w.heap.size, 1, none⟩ (.int .i64 b)).setCell ⟨w.heap.size + 1, 0, none⟩ (.int .i64 x)).setCell ⟨w.heap.size + 1, 1, none⟩ (.int .i64 y)).setCell ⟨w.heap.size + 1 + 1, 0, none⟩ (.int .i64 x2)).setCell ⟨w.heap.size + 1 + 1, 1, none⟩ (.int .i64 y2)).drew := ⟨_, rfl⟩
  have yC : C2 W w.heap.size (.slice A' ds.length c) (.int .i64 b) := by rw [hW]; exact (((((((HC8.out.set0 _).set1 _).setO z10 _).setO z10 _).setO z20 _).setO z20 _)).below (Below.refl _ _).drew
  have yE : C2 W (w.heap.size + 1) (.int .i64 x) (.int .i64 y) := by rw [hW]; exact (((((((HE8.out.setO z01 _).setO z01 _).set0 _).set1 _).setO z21 _).setO z21 _)).below (Below.refl _ _).drew
  have yH : C2 W (w.heap.size + 1 + 1) (.int .i64 x2) (.int .i64 y2) := by rw [hW]; exact (((((((HH8.out.setO z02 _).setO z02 _).setO z12 _).setO z12 _).set0 _).set1 _)).below (Below.refl _ _).drew
  have yO : W.ownsRow w.heap.size 104 2 (.slice A' ds.length c) ds.length (flat ds) := by rw [hW]; exact own_below (own_setCell (own_setCell (own_setCell (own_setCell (own_setCell (own_setCell (own_base HO8.out qq3) NO0.out _) NO0.out _) NO1.out _) NO1.out _) NO2.out _) NO2.out _) (Below.refl _ _).drew
  have yG : w.grownBy W (some R) := by rw [hW]; exact grown_drew (grown_set (grown_set (grown_set (grown_set (grown_set (grown_set (HG8.out) (by exact qq0) _) (by exact qq0) _) (by exact qq1) _) (by exact qq1) _) (by exact qq2) _) (by exact qq2) _)
  rw [← hW]
  clear hW
  obtain ⟨y0, y1, _, _⟩ := yC
  obtain ⟨y2', y3, _, _⟩ := yE
  obtain ⟨y4, y5, _, _⟩ := yH
  refine bodyPost_ret (v := .tuple #[.agg #[.slice A' ds.length c, .int .i64 b], .agg #[.int .i64 x, .int .i64 y], .agg #[.int .i64 x2, .int .i64 y2]]) (by simp [results, Try.results52, go_sem, y0, y1, y2', y3, y4, y5]) rfl ⟨A', c, ds, b, _, _, _, _, rfl, hn, HSM.out, HBD.out, HX12.out.1, HX12.out.2, HX34.out.1, HX34.out.2, yO, yG⟩
end Go.Proofs.Ytcaobalijnajgaa
