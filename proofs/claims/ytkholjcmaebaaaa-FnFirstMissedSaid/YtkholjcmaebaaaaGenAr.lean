import Derived.Test.YtkholjcmaebaaaaGenX
import Derived.Test.YtkholjcmaebaaaaArms
import Derived.Deep.DeepCutAuto
namespace Go.Proofs.Ytkholjcmaebaaaa
open Go.RowKit
set_option linter.unusedVariables false
set_option linter.unusedSimpArgs false
set_option maxRecDepth 100000

/-- A small arm. -/
def Ar.small (a : Ar) : Prop := (-60000 ≤ a.all ∧ a.all ≤ 60000) ∧ (-60000 ≤ a.non ∧ a.non ≤ 60000)
theorem Ar.small_ok {a : Ar} (h : a.small) : a.ok := by
  obtain ⟨h1, h2⟩ := h
  exact ⟨by unfold I64; omega, by unfold I64; omega⟩
/-- A drawn list of arms, and the reader behind it. -/
def ArsP (R B : Nat) (A : Option Addr) (cb : Nat) (zs : List Int) (p : Nat) (w : World) (e : Ending) (w' : World) : Prop :=
  ∃ (A' : Option Addr) (c : Nat) (rs : List Ar) (p' : Nat), e = .returned (.slice A' rs.length c) ∧ rs.length ≤ 7 ∧ (∀ a ∈ rs, a.small) ∧
    w'.ownsRow w.heap.size 40 2 (.slice A' rs.length c) rs.length (flatA rs) ∧ p' ≤ p + 150 ∧ w.grownBy w' (some R) ∧ Rdr w' R B A cb zs p'
theorem small_snoc {rs : List Ar} (h : ∀ a ∈ rs, a.small) {a : Ar} (ha : a.small) : ∀ x ∈ rs ++ [a], x.small := by
  intro x hx
  rcases List.mem_append.1 hx with h1 | h1
  · exact h x h1
  · rw [List.mem_singleton.1 h1]; exact ha
/-- Two cells of a literal list. -/
theorem lit2 {V : World} {g : Nat} {x : Int} (h0 : V.cell? ⟨g, 0, none⟩ = some (.int .i64 x)) (h1 : V.cell? ⟨g, 1, none⟩ = some (.int .i64 0)) (hx : -60000 ≤ x ∧ x ≤ 60000) : ∀ i, i < 2 → ∃ v : Int, V.cell? ⟨g, i, none⟩ = some (.int .i64 v) ∧ -60000 ≤ v ∧ v ≤ 60000 := by
  intro i hi
  rcases (show i = 0 ∨ i = 1 by omega) with rfl | rfl
  · exact ⟨x, h0, hx⟩
  · exact ⟨0, h1, by omega, by omega⟩
theorem ownLowAr {w w' : World} {base L : Nat} {e : TypeId} {sz : Nat} {v : Value} {n : Nat} {xs : List Value} (h : w.ownsRow base e sz v n xs) (hb : Below L w w') (hlt : ∀ q, v.ownBlock = some q → q < L) : w'.ownsRow base e sz v n xs := by
  refine ⟨h.1, ?_⟩
  rcases h.2 with hn | ⟨g, cap, cur, rfl, h1, hg, rest⟩
  · exact .inl hn
  · exact .inr ⟨g, cap, cur, rfl, h1, (hb.block g (hlt g rfl)).trans hg, rest⟩
set_option maxHeartbeats 16000000 in
theorem someArms_any (R B : Nat) (A : Option Addr) (cb : Nat) (zs : List Int) (p : Nat) (ds : List D) (b : Int) (Af : Option Addr) (nf cf base : Nat) (w : World) (h : Rdr w R B A cb zs p) (hp : p + 200 ≤ 100000)
    (ho : w.ownsRow base 94 2 (.slice Af nf cf) nf (flat ds)) (hok : ∀ d ∈ ds, d.small) (hRb : R < base) :
    Calls Try.prog 87 #[.pointer (some ⟨R, 0, none⟩), .agg #[.slice Af nf cf, .int .i64 b]] w (ArsP R B A cb zs p w) := by
  have hRw := h.lt
  have HOK := Lib.hid hok
  have HDL : Hid (∀ q, (Value.slice Af nf cf).ownBlock = some q → q < w.heap.size) := Lib.hid fun q hq => (ho.lt q hq).2
  obtain ⟨F, hF⟩ : ∃ F, w.heap.size = F := ⟨_, rfl⟩
  obtain ⟨w1, hw⟩ : ∃ W : World, W = (w.alloc (.cells #[.slice Af nf cf, .int .i64 b] 25)).alloc (.cells #[] 40) := ⟨_, rfl⟩
  have hb : Below w.heap.size w w1 := by rw [hw]; exact ((Below.refl _ _).alloc (Nat.le_refl _) _).alloc (by simp) _
  have hz1 : w1.heap.size = F + 1 + 1 := by rw [hw]; simp [hF]
  have HC1 : Hid (C2 w1 F (.slice Af nf cf) (.int .i64 b)) := Lib.hid (by rw [hw, ← hF]; exact (c2New _ _ _ _).below ((Below.refl _ _).alloc (Nat.le_refl _) _))
  have HO1 : Hid (w1.ownsRow (F + 1) 40 2 (.slice (some ⟨F + 1, 0, none⟩) 0 0) 0 (flatA [])) := Lib.hid (by rw [hw, ← hF]; have := World.ownsRow_made (e := 40) (size := 2) (w.alloc (.cells #[.slice Af nf cf, .int .i64 b] 25)) #[] 0 (Nat.le_refl _) (by unfold maxLen; omega) rfl; simpa [flatA] using this)
  have HD1 := Lib.hid (own_below ho hb)
  have HR1 := Lib.hid (h.below hb)
  have HG1 : Hid (w.grownBy w1 (some R)) := Lib.hid (grown_of_below hb _)
  have HW := Lib.hid hw.symm
  clear hb hw h ho hok
  have hRF : R < F := by omega
  go_enter Try.func87, Try.ntmps87
  go_wp2_with fail
  rw [HW.out, ← hz1]
  clear HW
  refine (one_any 0 6 R B A cb zs p w1.heap.size 6 6 _ (HR1.out.below ((Below.refl _ _).alloc (Nat.le_refl _) _)) (by omega) (by omega) (by omega) (by omega) (litI rfl rfl (by simp [allI]))).mono ?_
  rintro e w2 ⟨n0, rfl, na, nb, hg0, hr⟩
  have hg := (World.grownBy_alloc w1 (.cells #[.int .i64 3, .int .i64 2, .int .i64 4, .int .i64 1, .int .i64 0, .int .i64 6] 3) (some R)).trans hg0
  clear hg0
  have HC2 := Lib.hid (HC1.out.grown hg (by simp; omega))
  have HO2 := Lib.hid (HO1.out.kept hg (own_neR HO1.out (by omega)))
  have HD2 := Lib.hid (HD1.out.kept hg (own_neR HD1.out (by omega)))
  have HG2 : Hid (w.grownBy w2 (some R)) := Lib.hid (HG1.out.trans hg)
  have HR2 := Lib.hid hr
  have hz2 : F + 2 ≤ w2.heap.size := by have := hg.size; omega
  clear hg hr HC1 HO1 HD1 HG1 HR1 hz1
  obtain ⟨n0, rfl⟩ := Int.eq_ofNat_of_zero_le na
  have hn6 : n0 ≤ 6 := by omega
  clear na nb
  go_wp2_with fail
  go_loopw [5, 6] (fun v i wr => ∃ (rs : List Ar) (n p' : Nat), i = .int .i64 n ∧ rs.length + n ≤ 6 ∧ p' ≤ p + 1 + 15 * rs.length ∧ F + 2 ≤ wr.heap.size ∧ Hid (∀ a ∈ rs, a.small) ∧ Hid (C2 wr F (.slice Af nf cf) (.int .i64 b)) ∧ Hid (wr.ownsRow (F + 1) 40 2 v rs.length (flatA rs)) ∧ Hid (wr.ownsRow base 94 2 (.slice Af nf cf) nf (flat ds)) ∧ Hid (w.grownBy wr (some R)) ∧ Hid (Rdr wr R B A cb zs p')) (fun _ i _ => (intOf i).toNat)
  case atStart => exact ⟨[], n0, p + 1, rfl, by simp; omega, by simp, hz2, Lib.hid (by simp), HC2, HO2, HD2, HG2, HR2⟩
  case round =>
    clear HC2 HO2 HD2 HG2 HR2 hz2
    obtain ⟨rs, n, p', rfl, hrn, hp', hz3, HSM, HC3, HO3, HD3, HG3, HR3⟩ := hrel
    obtain ⟨A', c', rfl⟩ := own_form HO3.out
    obtain ⟨w3, hwn⟩ : ∃ W : World, W = wr := ⟨_, rfl⟩
    subst hwn
    have hR3 := HR3.out.lt
    by_cases hn0 : 0 < n
    · obtain ⟨m, rfl⟩ : ∃ m, n = m + 1 := ⟨n - 1, by omega⟩
      have hn1 : 0 < ((m + 1 : Nat) : Int) := by omega
      have hw1 : IntKind.i64.wrap (((m + 1 : Nat) : Int) - 1) = (m : Int) := by rw [IntKind.wrap_i64]; omega
      obtain ⟨k0, k1, _, _⟩ := id HC3.out
      go_wp2_with fail
      refine (anArm_any R B A cb zs p' ds b Af nf cf base _ HR3.out (by omega) HD3.out HOK.out).mono ?_
      rintro e w4 ⟨x, y, p4, rfl, hx, hy, hp4, hg, hr⟩
      have HC4 := Lib.hid (HC3.out.grown hg (by simp; omega))
      have HO4 := Lib.hid (HO3.out.kept hg (own_neR HO3.out (by omega)))
      have HD4 := Lib.hid (HD3.out.kept hg (own_neR HD3.out (by omega)))
      have HG4 : Hid (w.grownBy w4 (some R)) := Lib.hid (HG3.out.trans hg)
      have HR4 := Lib.hid hr
      have hz4 : w3.heap.size ≤ w4.heap.size := hg.size
      clear hg hr k0 k1 HC3 HO3 HD3 HG3 HR3
      obtain ⟨X, hX⟩ : ∃ X, w4.heap.size = X := ⟨_, rfl⟩
      obtain ⟨w5, hw⟩ : ∃ W : World, W = w4.alloc (.cells #[.int .i64 x, .int .i64 y] 40) := ⟨_, rfl⟩
      have hb : Below w4.heap.size w4 w5 := by rw [hw]; exact (Below.refl _ _).alloc (Nat.le_refl _) _
      have hz5 : w5.heap.size = X + 1 := by rw [hw]; simp [hX]
      have HX5 : Hid (C2 w5 X (.int .i64 x) (.int .i64 y)) := Lib.hid (by rw [hw, ← hX]; exact c2New _ _ _ _)
      have NXO : Hid (∀ q, (Value.slice A' rs.length c').ownBlock = some q → q < X ∧ F + 1 ≤ q) := Lib.hid fun q hq => by have := HO4.out.lt q hq; omega
      have NXD : Hid (∀ q, (Value.slice Af nf cf).ownBlock = some q → q < X) := Lib.hid fun q hq => by have := (HD4.out.lt q hq).2; omega
      have HC5 := Lib.hid (HC4.out.below hb)
      have HO5 := Lib.hid (own_below HO4.out hb)
      have HD5 := Lib.hid (own_below HD4.out hb)
      have HG5 : Hid (w.grownBy w5 (some R)) := Lib.hid (HG4.out.trans (grown_of_below hb _))
      have HR5 := Lib.hid (HR4.out.below hb)
      have HW := Lib.hid hw.symm
      clear hb hw HC4 HO4 HD4 HG4 HR4
      go_wp2_with fail
      rw [HW.out]
      clear HW
      have m1 : X ≠ R := by omega
      have m2 : F ≠ R := by omega
      have m3 : F ≠ X := by omega
      have m4 : X ≠ F := by omega
      refine (pick_any 2 R B A cb zs p4 _ HR5.out (by omega) (by omega) (by omega)).mono ?_
      rintro e w6 ⟨r, rfl, r0, r1, hg, hr⟩
      have HC6 := Lib.hid (HC5.out.grown hg (by simpa using m2))
      have HX6 := Lib.hid (HX5.out.grown hg (by simpa using m1))
      have HO6 := Lib.hid (HO5.out.kept hg (own_neR HO5.out (by omega)))
      have HD6 := Lib.hid (HD5.out.kept hg (own_neR HD5.out (by omega)))
      have HG6 : Hid (w.grownBy w6 (some R)) := Lib.hid (HG5.out.trans hg)
      have HR6 := Lib.hid hr
      have hz6 : X + 1 ≤ w6.heap.size := by have := hg.size; omega
      clear hg hr HC5 HX5 HO5 HD5 HG5 HR5 hz5 r1
      have m7 : F + 2 ≤ X := by omega
      clear hX
      by_cases hr0 : r = 0
      · subst hr0
        obtain ⟨a0, a1, f0, f1⟩ := id HX6.out
        have hR6 := HR6.out.lt
        have aA := keep1 ((Below.refl w6.heap.size w6).alloc (Nat.le_refl _) (.cells #[.int .i64 x, .int .i64 0] 3)) a1
        have aB := keep1 ((Below.refl w6.heap.size w6).alloc (Nat.le_refl _) (.cells #[.int .i64 y, .int .i64 0] 3)) a0
        go_upto_region 7 with fail
        go_cut [7] (fun s wx => ∃ (u v : Int) (p9 : Nat), s = .pointer (some ⟨X, 0, none⟩) ∧ (-60000 ≤ u ∧ u ≤ 60000) ∧ (-60000 ≤ v ∧ v ≤ 60000) ∧ p9 ≤ p4 + 3 ∧ X + 1 ≤ wx.heap.size ∧ Hid (C2 wx X (.int .i64 u) (.int .i64 v)) ∧ Hid (C2 wx F (.slice Af nf cf) (.int .i64 b)) ∧ Hid (wx.ownsRow (F + 1) 40 2 (.slice A' rs.length c') rs.length (flatA rs)) ∧ Hid (wx.ownsRow base 94 2 (.slice Af nf cf) nf (flat ds)) ∧ Hid (w.grownBy wx (some R)) ∧ Hid (Rdr wx R B A cb zs p9))
        case first =>
          go_region_law (first | (go_simp; go_at_call 73; refine (one_any (-60000) 60000 R B A cb zs (p4 + 1) _ 2 2 _ (by first | exact HR6.out.below ((Below.refl _ _).alloc (Nat.le_refl _) _) | exact HR6.out.below (((Below.refl _ _).alloc (Nat.le_refl _) _).alloc (by simp) _) | exact HR6.out.below ((Below.refl _ _).alloc (Nat.le_refl _) _).drew | exact HR6.out.below (((Below.refl _ _).alloc (Nat.le_refl _) _).alloc (by simp) _).drew) (by omega) (by first | omega | (simp; omega)) (by omega) (by omega) (lit2 (x := x) (by simp [go_sem]) (by simp [go_sem]) hx)).mono ?_; rintro e w7 ⟨u, rfl, ua, ub, hg, hr⟩; have hq := hg; replace hg : w6.grownBy w7 (some R) := (by first | exact (World.grownBy_alloc w6 (.cells #[.int .i64 x, .int .i64 0] 3) (some R)).trans ⟨hg.os, hg.tape, hg.output, hg.size, hg.block⟩ | exact ((World.grownBy_alloc w6 (.cells #[.int .i64 x, .int .i64 0] 3) (some R)).trans (World.grownBy_alloc _ (.cells #[.int .i64 y, .int .i64 0] 3) (some R))).trans ⟨hg.os, hg.tape, hg.output, hg.size, hg.block⟩ | exact ((World.grownBy_alloc w6 (.cells #[.int .i64 y, .int .i64 0] 3) (some R)).trans (World.grownBy_alloc _ (.cells #[.int .i64 x, .int .i64 0] 3) (some R))).trans ⟨hg.os, hg.tape, hg.output, hg.size, hg.block⟩); have HX7 := Lib.hid (HX6.out.grown hg (by simpa using m1)); have HC7 := Lib.hid (HC6.out.grown hg (by simpa using m2)); have HO7 := Lib.hid (HO6.out.kept hg (own_neR HO6.out (by omega))); have HD7 := Lib.hid (HD6.out.kept hg (own_neR HD6.out (by omega))); have HG7 : Hid (w.grownBy w7 (some R)) := Lib.hid (HG6.out.trans hg); have HR7 := Lib.hid hr; have hz7 : w6.heap.size ≤ w7.heap.size := hg.size; obtain ⟨b0, b1, bf0, bf1⟩ := id HX7.out; have hR7 := HR7.out.lt) | (go_simp; go_at_call 73; refine (one_any (-60000) 60000 R B A cb zs (p4 + 1 + 1) _ 2 2 _ (by first | exact HR7.out | exact HR7.out.below ((Below.refl _ _).alloc (Nat.le_refl _) _)) (by omega) (by first | omega | (simp; omega)) (by omega) (by omega) (lit2 (x := y) (by first | (simp [go_sem]; done) | exact hq.cell (by simp [go_sem]) (by intro e; have := Option.some.inj e; simp at this; omega)) (by first | (simp [go_sem]; done) | exact hq.cell (by simp [go_sem]) (by intro e; have := Option.some.inj e; simp at this; omega)) hy)).mono ?_; rintro e w8 ⟨v, rfl, va, vb, hg2, hr2⟩; replace hg2 : w7.grownBy w8 (some R) := (by first | exact hg2 | exact (World.grownBy_alloc w7 (.cells #[.int .i64 y, .int .i64 0] 3) (some R)).trans hg2); have HX8 := Lib.hid (HX7.out.grown hg2 (by simpa using m1)); have HC8 := Lib.hid (HC7.out.grown hg2 (by simpa using m2)); have HO8 := Lib.hid (HO7.out.kept hg2 (own_neR HO7.out (by omega))); have HD8 := Lib.hid (HD7.out.kept hg2 (own_neR HD7.out (by omega))); have HG8 : Hid (w.grownBy w8 (some R)) := Lib.hid (HG7.out.trans hg2); have HR8 := Lib.hid hr2; have hz8 : w7.heap.size ≤ w8.heap.size := hg2.size; obtain ⟨d0, d1, df0, df1⟩ := id HX8.out))
          all_goals
            go_wp2_with fail
            go_meet
            refine ⟨u, v, p4 + 1 + 1 + 1, rfl, ⟨ua, ub⟩, ⟨va, vb⟩, by omega, by (first | omega | (simp; omega)), ?_, ?_, ?_, ?_, ?_, ?_⟩
            · exact Lib.hid ((HX8.out.set0 _).set1 _)
            · exact Lib.hid ((HC8.out.setO (by exact m4) _).setO (by exact m4) _)
            · exact Lib.hid (own_setCell (own_setCell HO8.out (fun e => by have := (NXO.out X e).1; omega) _) (fun e => by have := (NXO.out X e).1; omega) _)
            · exact Lib.hid (own_setCell (own_setCell HD8.out (fun e => by have := NXD.out X e; omega) _) (fun e => by have := NXD.out X e; omega) _)
            · exact Lib.hid (grown_set (grown_set HG8.out (by show w.heap.size ≤ X; omega) _) (by show w.heap.size ≤ X; omega) _)
            · exact Lib.hid ((HR8.out.set (by show R < X; omega) _).set (by show R < X; omega) _)
        case rest =>
          obtain ⟨u, v, p9, hs, hu, hv, hp9, hz8, HX8, HC8, HO8, HD8, HG8, HR8⟩ := hcut
          subst hs
          obtain ⟨w8, e8⟩ : ∃ W : World, W = wc := ⟨_, rfl⟩
          subst e8
          clear a0 a1 f0 f1 aA aB HX6 HC6 HO6 HD6 HG6 HR6
          obtain ⟨a0, a1, f0, f1⟩ := id HX8.out
          go_wp2_with (at_builtin; refine wpList_app_A rfl _ _ rfl (F + 1) _ _ _ rfl HO8.out _ _ _ _ rfl (by first | rfl | simp) (by omega) (by first | omega | (simp; omega)) ?_; intro v' w9 ho9 hb9; have HO9 := Lib.hid ho9; have HB9 := Lib.hid hb9; clear ho9 hb9)
          have HC9 := Lib.hid (HC8.out.low HB9.out (by omega))
          have HD9 := Lib.hid (ownLowAr HD8.out HB9.out (fun q hq => by have := HDL.out q hq; omega))
          have HG9 : Hid (w.grownBy w9 (some R)) := Lib.hid (grown_below HG8.out (HB9.out.mono (by omega)))
          have HR9 := Lib.hid (HR8.out.belowL HB9.out (by omega))
          have hz9 : F + 2 ≤ w9.heap.size := by have := HB9.out.size; omega
          have HF9 : Hid (w9.ownsRow (F + 1) 40 2 v' (rs ++ [(⟨u, v⟩ : Ar)]).length (flatA (rs ++ [⟨u, v⟩]))) := Lib.hid (by rw [flatA_app, List.length_append]; exact HO9.out)
          have HS9 : Hid (∀ a ∈ rs ++ [(⟨u, v⟩ : Ar)], a.small) := Lib.hid (small_snoc HSM.out ⟨by show -60000 ≤ u ∧ u ≤ 60000; omega, by show -60000 ≤ v ∧ v ≤ 60000; omega⟩)
          have hl9 : (rs ++ [(⟨u, v⟩ : Ar)]).length = rs.length + 1 := by simp
          go_roundw
          case rel => exact ⟨rs ++ [⟨u, v⟩], m, p9, by go_num, by omega, by omega, hz9, HS9, HC9, HF9, HD9, HG9, HR9⟩
          case measure => simp [intOf]
      · have hr2 : (r == 0) = false := by rw [beq_eq_false_iff_ne]; exact hr0
        clear hr0
        obtain ⟨a0, a1, f0, f1⟩ := id HX6.out
        go_wp2_with (at_builtin; refine wpList_app_A rfl _ _ rfl (F + 1) _ _ _ rfl HO6.out _ _ _ _ rfl (by first | rfl | simp) (by omega) (by first | omega | (simp; omega)) ?_; intro v' w9 ho9 hb9; have HO9 := Lib.hid ho9; have HB9 := Lib.hid hb9; clear ho9 hb9)
        have HC9 := Lib.hid (HC6.out.low HB9.out (by omega))
        have HD9 := Lib.hid (ownLowAr HD6.out HB9.out (fun q hq => by have := HDL.out q hq; omega))
        have HG9 : Hid (w.grownBy w9 (some R)) := Lib.hid (grown_below HG6.out (HB9.out.mono (by omega)))
        have HR9 := Lib.hid (HR6.out.belowL HB9.out (by omega))
        have hz9 : F + 2 ≤ w9.heap.size := by have := HB9.out.size; omega
        have HF9 : Hid (w9.ownsRow (F + 1) 40 2 v' (rs ++ [(⟨x, y⟩ : Ar)]).length (flatA (rs ++ [⟨x, y⟩]))) := Lib.hid (by rw [flatA_app, List.length_append]; exact HO9.out)
        have HS9 : Hid (∀ a ∈ rs ++ [(⟨x, y⟩ : Ar)], a.small) := Lib.hid (small_snoc HSM.out ⟨by show -60000 ≤ x ∧ x ≤ 60000; omega, by show -60000 ≤ y ∧ y ≤ 60000; omega⟩)
        have hl9 : (rs ++ [(⟨x, y⟩ : Ar)]).length = rs.length + 1 := by simp
        go_roundw
        case rel => exact ⟨rs ++ [⟨x, y⟩], m, (p4 + 1), by go_num, by omega, by omega, hz9, HS9, HC9, HF9, HD9, HG9, HR9⟩
        case measure => simp [intOf]
    · obtain rfl : n = 0 := by omega
      have hn1 : ¬ (0 : Int) < 0 := by omega
      obtain ⟨k0, k1, _, _⟩ := id HC3.out
      go_wp2_with fail
      refine (pick_any 20 R B A cb zs p' _ HR3.out (by omega) (by omega) (by omega)).mono ?_
      rintro e w6 ⟨r, rfl, r0, r1, hg, hr⟩
      have HC6 := Lib.hid (HC3.out.grown hg (by simp; omega))
      have HO6 := Lib.hid (HO3.out.kept hg (own_neR HO3.out (by omega)))
      have HD6 := Lib.hid (HD3.out.kept hg (own_neR HD3.out (by omega)))
      have HG6 : Hid (w.grownBy w6 (some R)) := Lib.hid (HG3.out.trans hg)
      have HR6 := Lib.hid hr
      have hz6 : w3.heap.size ≤ w6.heap.size := hg.size
      clear hg hr k0 k1 HC3 HO3 HD3 HG3 HR3 r1
      by_cases hr0 : r = 0
      · subst hr0
        obtain ⟨k0, k1, _, _⟩ := id HC6.out
        go_wp2_with fail
        refine (someArm_any R B A cb zs (p' + 1) ds b Af nf cf base _ HR6.out (by omega) HD6.out HOK.out hRb).mono ?_
        rintro e w7 ⟨x, y, p7, rfl, hx, hy, hp7, hg, hr⟩
        have HO7 := Lib.hid (HO6.out.kept hg (own_neR HO6.out (by omega)))
        have HG7 : Hid (w.grownBy w7 (some R)) := Lib.hid (HG6.out.trans hg)
        have HR7 := Lib.hid hr
        have hz7 : w6.heap.size ≤ w7.heap.size := hg.size
        clear hg hr k0 k1 HC6 HO6 HD6 HG6 HR6
        go_wp2_with (at_builtin; refine wpList_app_A rfl _ _ rfl (F + 1) _ _ _ rfl HO7.out _ _ _ _ rfl (by first | rfl | simp) (by omega) (by first | omega | (simp; omega)) ?_; intro v' w9 ho9 hb9; obtain ⟨A9, c9, rfl⟩ := own_form ho9; have HO9 := Lib.hid ho9; have HB9 := Lib.hid hb9; clear ho9 hb9)
        go_ret
        have hl9 : (rs ++ [(⟨x, y⟩ : Ar)]).length = rs.length + 1 := by simp
        refine ⟨A9, c9, rs ++ [⟨x, y⟩], p7, by rw [hl9]; rfl, by omega, small_snoc HSM.out ⟨hx, hy⟩, ?_, by omega, grown_below HG7.out (HB9.out.mono (by omega)), HR7.out.belowL HB9.out (by omega)⟩
        rw [hl9, flatA_app]
        exact own_base HO9.out (by omega)
      · have hr2 : (r == 0) = false := by rw [beq_eq_false_iff_ne]; exact hr0
        clear hr0
        go_wp2
        go_ret
        exact ⟨A', c', rs, p' + 1, rfl, by omega, HSM.out, own_base HO6.out (by omega), by omega, HG6.out, HR6.out⟩
end Go.Proofs.Ytkholjcmaebaaaa
