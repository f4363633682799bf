import Derived.Test.YtboehlffbibgmaaGreatDoorGenK
import Derived.Test.YtboehlffbibgmaaGreatDoorLShv
namespace Go.Proofs.YtboehlffbibgmaaGreatDoor
open Go.RowKit
set_option linter.unusedVariables false
set_option linter.unusedSimpArgs false
set_option maxRecDepth 100000

/-- What valueIn makes, and the reader behind it. -/
def GenFR (R B : Nat) (A : Option Addr) (cb : Nat) (zs : List Int) (p : Nat) (w : World) (e : Ending) (w' : World) : Prop :=
  ∃ (A' : Option Addr) (c : Nat) (ds : List D) (b x : Int) (p' : Nat), e = .returned (.tuple #[.agg #[.slice A' ds.length c, .int .i64 b], .int .i64 x]) ∧ ds.length ≤ 13 ∧ (∀ d ∈ ds, d.small) ∧ (-1 ≤ b ∧ b ≤ 4) ∧ (-1 ≤ x ∧ x ≤ 4096) ∧
    w'.ownsRow w.heap.size 82 2 (.slice A' ds.length c) ds.length (flat ds) ∧ w.grownBy w' (some R) ∧ p' ≤ p + 200 ∧ Rdr w' R B A cb zs p'
set_option maxHeartbeats 8000000 in
theorem valueInR_any (R B : Nat) (A : Option Addr) (cb : Nat) (zs : List Int) (p : Nat) (w : World) (h : Rdr w R B A cb zs p) (hp : p + 200 ≤ 100000) :
    Calls Tryz.prog 19 #[.pointer (some ⟨R, 0, none⟩)] w (GenFR R B A cb zs p w) := by
  have hRw := h.lt
  have HR := Lib.hid h
  clear h
  obtain ⟨w1, hw⟩ : ∃ W : World, W = w.alloc (.cells #[.slice none 0 0, .int .i64 0] 25) := ⟨_, rfl⟩
  have hb : Below w.heap.size w w1 := by rw [hw]; exact (Below.refl _ _).alloc (Nat.le_refl _) _
  have hz1 : w.heap.size + 1 ≤ w1.heap.size := by rw [hw]; simp
  have HC1 : Hid (C2 w1 w.heap.size (.slice none 0 0) (.int .i64 0)) := Lib.hid (by rw [hw]; exact c2New _ _ _ _)
  have HR1 := Lib.hid (HR.out.below hb)
  have HG1 : Hid (w.grownBy w1 (some R)) := Lib.hid (grown_of_below hb _)
  have HW := Lib.hid hw.symm
  have hwR : w.heap.size ≠ R := by omega
  clear hb hw HR
  go_enter Tryz.func19, Tryz.ntmps19
  go_wp2_with fail
  rw [HW.out]
  clear HW
  refine (someFlag_any R B A cb zs p _ HR1.out (by omega)).mono ?_
  rintro e w2 ⟨A', c, ds, b, p', rfl, hn, hsm, hbd, hown, hp', hg, hr⟩
  have hz2 : w1.heap.size ≤ w2.heap.size := hg.size
  have HC2 := Lib.hid (HC1.out.grown hg (by simpa using hwR))
  have HO2 := Lib.hid (own_base hown (show w.heap.size + 1 ≤ _ by omega))
  have HG2 : Hid (w.grownBy w2 (some R)) := Lib.hid (HG1.out.trans hg)
  have HR2 := Lib.hid hr
  have HSM := Lib.hid hsm
  have HOK : Hid (∀ d ∈ ds, d.ok) := Lib.hid fun d hd => small_ok (hsm d hd)
  have HBD := Lib.hid hbd
  clear hg hown hr hsm hbd HC1 HG1 HR1
  obtain ⟨w3, hw⟩ : ∃ W : World, W = w2.alloc (.cells #[.slice A' ds.length c, .int .i64 b] 25) := ⟨_, rfl⟩
  have hb : Below w2.heap.size w2 w3 := by rw [hw]; exact (Below.refl _ _).alloc (Nat.le_refl _) _
  have hz3 : w2.heap.size + 1 ≤ w3.heap.size := by rw [hw]; simp
  have HD3 : Hid (C2 w3 w2.heap.size (.slice A' ds.length c) (.int .i64 b)) := Lib.hid (by rw [hw]; exact c2New _ _ _ _)
  have HC3 := Lib.hid (HC2.out.below hb)
  have HO3 := Lib.hid (own_below HO2.out hb)
  have HG3 : Hid (w.grownBy w3 (some R)) := Lib.hid (HG2.out.trans (grown_of_below hb _))
  have HR3 := Lib.hid (HR2.out.below hb)
  have HW := Lib.hid hw.symm
  have hGR : w2.heap.size ≠ R := by omega
  have hGw : w2.heap.size ≠ w.heap.size := by omega
  have hGw' : w.heap.size ≠ w2.heap.size := by omega
  clear hb hw HC2 HO2 HG2 HR2
  go_wp2_with fail
  rw [HW.out]
  clear HW
  obtain ⟨d0, d1, _, _⟩ := HD3.out
  generalize hG : w2.heap.size = G at *
  clear hG
  go_region_held3 (fun w' => w'.cell? ⟨G, 0, none⟩ = some (.slice A' ds.length c) ∧ w'.cell? ⟨G, 1, none⟩ = some (.int .i64 b)) (first | go_keep | exact ⟨d0, d1⟩ | exact ⟨x0, x1⟩)
    (first | (go_at_call 45; refine (aValue_any R B A cb zs p' ds b A' ds.length c (w.heap.size + 1) _ (HR3.out.drewN 1) (by omega) (own_below HO3.out (below_drewN (Below.refl _ _) 1)) HOK.out (by omega)).mono ?_; rintro e w4 ⟨x, p4, rfl, hx, hp4, hg, hr⟩; replace hg : w3.grownBy w4 (some R) := ⟨hg.os, hg.tape, hg.output, hg.size, hg.block⟩; have HC4 := Lib.hid (HC3.out.grown hg (by simpa using hwR)); have HD4 := Lib.hid (HD3.out.grown hg (by simpa using hGR)); have x0 := HD4.out.c0; have x1 := HD4.out.c1; have y0 := HC4.out.c0; have y1 := HC4.out.c1; have z0 := HC4.out.f0; have z1 := HC4.out.f1))
  have HO4 := Lib.hid (HO3.out.kept hg (own_neR HO3.out (by omega)))
  have HG4 : Hid (w.grownBy w4 (some R)) := Lib.hid (HG3.out.trans hg)
  have HR4 := Lib.hid hr
  clear hg hr
  go_wp2
  refine bodyPost_ret (v := .tuple #[.agg #[.slice A' ds.length c, .int .i64 b], .int .i64 x]) (by simp [results, Tryz.results19, go_sem, y0, y1]) rfl ⟨A', c, ds, b, _, _, rfl, hn, HSM.out, HBD.out, ⟨by omega, by omega⟩, ?_, ?_, by omega, (HR4.out.set (by show R < w.heap.size; omega) _).set (by show R < w.heap.size; omega) _⟩
  · exact own_setCell (own_setCell (own_base HO4.out (by omega)) (fun e => by have := (HO4.out.lt _ e).1; simp only at *; omega) _) (fun e => by have := (HO4.out.lt _ e).1; simp only at *; omega) _
  · exact grown_set (grown_set HG4.out (Nat.le_refl _) _) (Nat.le_refl _) _

/-- A drawn text, and the reader behind it. -/
def TxRP (M R B : Nat) (A : Option Addr) (cb : Nat) (zs : List Int) (p : Nat) (w : World) (e : Ending) (w' : World) : Prop :=
  ∃ (s : ByteArray) (p' : Nat), e = .returned (.string s) ∧ s.size ≤ M ∧ p' ≤ p + 40 ∧ w.grownBy w' (some R) ∧ Rdr w' R B A cb zs p'
set_option maxHeartbeats 8000000 in
theorem mutate_any (R B : Nat) (A : Option Addr) (cb : Nat) (zs : List Int) (p : Nat) (s : ByteArray) (w : World) (h : Rdr w R B A cb zs p) (hp : p + 10 ≤ 100000) (hs : s.size ≤ 4500) :
    Calls Tryz.prog 32 #[.pointer (some ⟨R, 0, none⟩), .string s] w (TxRP (s.size + 100) R B A cb zs p w) := by
  have hRw := h.lt
  have HR := Lib.hid h
  clear h
  go_enter Tryz.func32, Tryz.ntmps32
  go_wp2_with fail
  refine (pick_any ((s.size : Int) + 1) R B A cb zs p _ HR.out (by omega) (by omega) (by omega)).mono ?_
  rintro e w1 ⟨q, rfl, qa, qb, hg, hr⟩
  have qc := qb (by omega)
  obtain ⟨k, rfl⟩ := Int.eq_ofNat_of_zero_le qa
  have HG1 := Lib.hid hg
  have HR1 := Lib.hid hr
  clear hg hr qb qa HR
  go_wp2_with fail
  refine (pick_any 5 R B A cb zs _ _ HR1.out (by omega) (by omega) (by omega)).mono ?_
  rintro e w2 ⟨m, rfl, ma, mb, hg, hr⟩
  have mc := mb (by omega)
  have HG2 := Lib.hid (HG1.out.trans hg)
  have HR2 := Lib.hid hr
  have hz2 : w.heap.size ≤ w2.heap.size := HG2.out.size
  clear hg hr mb HG1 HR1
  have hm : m = 0 ∨ m = 1 ∨ m = 2 ∨ m = 3 ∨ m = 4 := by omega
  have hk0 : (0 : Int) ≤ (k : Int) := by omega
  have hk1 : (k : Int) ≤ (s.size : Int) := by omega
  have plain : ∀ W : World, Hid (w.grownBy W (some R)) → Hid (Rdr W R B A cb zs (p + 1 + 1)) → TxRP (s.size + 100) R B A cb zs p w (.returned (.string s)) W := fun W g r => ⟨s, _, rfl, by omega, by omega, g.out, r.out⟩
  rcases hm with rfl | rfl | rfl | rfl | rfl
  · by_cases hlt : (k : Int) < (s.size : Int)
    · have hw1 : IntKind.i64.wrap ((k : Int) + 1) = (k : Int) + 1 := by rw [IntKind.wrap_i64]; omega
      have hk2 : (k : Int) + 1 ≤ (s.size : Int) := by omega
      have hk3 : (0 : Int) ≤ (k : Int) + 1 := by omega
      go_wp2_with fail
      refine wp_region_held_drew (S := fun _ => True) (by kernel_rfl) trivial (fun hHeld => ?_)
      generalize hwd : w2.drew = w3 at hHeld ⊢
      have HG3 : Hid (w.grownBy w3 (some R)) := Lib.hid (by rw [← hwd]; exact grown_drew HG2.out)
      have HR3 : Hid (Rdr w3 R B A cb zs (p + 1 + 1)) := Lib.hid (by rw [← hwd]; exact HR2.out.drewN 1)
      clear hwd
      refine wpAnyH_take (i := 0) (v := ?_) rfl (by kernel_rfl) (by kernel_rfl) (by kernel_rfl) (fun _ _ _ h => h) (Or.inl ⟨by kernel_rfl, ?_⟩) hHeld ?_
      rotate_left
      · intro wz hSw
        first
        | (go_simp; done)
        | (go_simp; with_reducible rfl)
        | (go_simp; omega)
      try simp only [Act.put, List.setIfInBounds_toArray, List.set_cons_zero, List.set_cons_succ]
      refine wpAnyH_take (i := 1) (v := ?_) rfl (by kernel_rfl) (by kernel_rfl) (by kernel_rfl) (fun _ _ _ h => h) (Or.inl ⟨by kernel_rfl, ?_⟩) hHeld ?_
      rotate_left
      · intro wz hSw
        first
        | (go_simp; done)
        | (go_simp; with_reducible rfl)
        | (go_simp; omega)
      try simp only [Act.put, List.setIfInBounds_toArray, List.set_cons_zero, List.set_cons_succ]
      refine wpAnyH_take (i := 2) (v := ?_) rfl (by kernel_rfl) (by kernel_rfl) (by kernel_rfl) (fun _ _ _ h => h) (Or.inl ⟨by kernel_rfl, ?_⟩) hHeld ?_
      rotate_left
      · intro wz hSw
        first
        | (go_simp; done)
        | (go_simp; with_reducible rfl)
        | (go_simp; omega)
      try simp only [Act.put, List.setIfInBounds_toArray, List.set_cons_zero, List.set_cons_succ]
      refine wpAnyH_take (i := 3) (v := ?_) rfl (by kernel_rfl) (by kernel_rfl) (by kernel_rfl) (fun _ _ _ h => h) (Or.inl ⟨by kernel_rfl, ?_⟩) hHeld ?_
      rotate_left
      · intro wz hSw
        first
        | (go_simp; done)
        | (go_simp; with_reducible rfl)
        | (go_simp; omega)
      try simp only [Act.put, List.setIfInBounds_toArray, List.set_cons_zero, List.set_cons_succ]
      refine wpAnyH_take (i := 7) (v := ?_) rfl (by kernel_rfl) (by kernel_rfl) (by kernel_rfl) (fun _ _ _ h => h) (Or.inl ⟨by kernel_rfl, ?_⟩) hHeld ?_
      rotate_left
      · intro wz hSw
        first
        | (go_simp; done)
        | (go_simp; with_reducible rfl)
        | (go_simp; omega)
      try simp only [Act.put, List.setIfInBounds_toArray, List.set_cons_zero, List.set_cons_succ]
      refine wpAnyH_take (i := 8) (v := ?_) rfl (by kernel_rfl) (by kernel_rfl) (by kernel_rfl) (fun _ _ _ h => h) (Or.inl ⟨by kernel_rfl, ?_⟩) hHeld ?_
      rotate_left
      · intro wz hSw
        first
        | (go_simp; done)
        | (go_simp; with_reducible rfl)
        | (go_simp; omega)
      try simp only [Act.put, List.setIfInBounds_toArray, List.set_cons_zero, List.set_cons_succ]
      refine wpAnyH_take (i := 9) (v := ?_) rfl (by kernel_rfl) (by kernel_rfl) (by kernel_rfl) (fun _ _ _ h => h) (Or.inl ⟨by kernel_rfl, ?_⟩) hHeld ?_
      rotate_left
      · intro wz hSw
        first
        | (go_simp; done)
        | (go_simp; with_reducible rfl)
        | (go_simp; omega)
      try simp only [Act.put, List.setIfInBounds_toArray, List.set_cons_zero, List.set_cons_succ]
      refine wpAnyH_take (i := 10) (v := ?_) rfl (by kernel_rfl) (by kernel_rfl) (by kernel_rfl) (fun _ _ _ h => h) (Or.inl ⟨by kernel_rfl, ?_⟩) hHeld ?_
      rotate_left
      · intro wz hSw
        first
        | (go_simp; done)
        | (go_simp; with_reducible rfl)
        | (go_simp; omega)
      try simp only [Act.put, List.setIfInBounds_toArray, List.set_cons_zero, List.set_cons_succ]
      refine wpAnyH_ready (rs := [4]) (by kernel_rfl) (by simp) ?_
      refine AllReadyH.cons rfl (fun K hK => ?_) AllReadyH.nil
      go_simp
      refine hK.out _ _ trivial (fun hHeld => ?_)
      clear hK K
      try simp only [Act.put, List.setIfInBounds_toArray, List.set_cons_zero, List.set_cons_succ]
      refine wpAnyH_ready (rs := [5]) (by kernel_rfl) (by simp) ?_
      refine AllReadyH.cons rfl (fun K hK => ?_) AllReadyH.nil
      go_simp
      refine (of_any R B A cb zs (p + 1 + 1) w3.heap.size 9 9 _ (HR3.out.below ((Below.refl _ _).alloc (Nat.le_refl _) _)) (by omega) (by have := HR3.out.lt; omega) (by omega) (by omega) (by refine litS ?_ ?_ <;> first | rfl | decide)).mono ?_
      rintro e w4 ⟨t, rfl, ht, hg, hr⟩
      have HG4 : Hid (w.grownBy w4 (some R)) := Lib.hid (HG3.out.trans ((World.grownBy_alloc _ _ _).trans hg))
      have HR4 := Lib.hid hr
      clear hg hr
      go_simp
      refine hK.out _ _ trivial (fun hHeld => ?_)
      clear hK K
      try simp only [Act.put, List.setIfInBounds_toArray, List.set_cons_zero, List.set_cons_succ]
      refine wpAnyH_take (i := 6) (v := .string (s.extract 0 k ++ t)) rfl (by kernel_rfl) (by kernel_rfl) (by kernel_rfl) (fun _ _ _ h => h) (Or.inl ⟨by kernel_rfl, ?_⟩) hHeld ?_
      · intro wz hSw
        first
        | (go_simp; done)
        | (go_simp; with_reducible rfl)
        | (go_simp; omega)
      try simp only [Act.put, List.setIfInBounds_toArray, List.set_cons_zero, List.set_cons_succ]
      refine wpAnyH_take (i := 11) (v := .string ((s.extract 0 k ++ t) ++ s.extract (k + 1) s.size)) rfl (by kernel_rfl) (by kernel_rfl) (by kernel_rfl) (fun _ _ _ h => h) (Or.inl ⟨by kernel_rfl, ?_⟩) hHeld ?_
      · intro wz hSw
        first
        | (go_simp; done)
        | (go_simp; with_reducible rfl)
        | (go_simp; omega)
      try simp only [Act.put, List.setIfInBounds_toArray, List.set_cons_zero, List.set_cons_succ]
      refine wpAnyH_take (i := 12) (v := ?_) rfl (by kernel_rfl) (by kernel_rfl) (by kernel_rfl) (fun _ _ _ h => h) (Or.inl ⟨by kernel_rfl, ?_⟩) hHeld ?_
      rotate_left
      · intro wz hSw
        first
        | (go_simp; done)
        | (go_simp; with_reducible rfl)
        | (go_simp; omega)
      try simp only [Act.put, List.setIfInBounds_toArray, List.set_cons_zero, List.set_cons_succ]
      refine wpAnyH_done (by kernel_rfl) ?_ _
      try go_simp
      go_wp2
      go_ret
      exact ⟨_, p + 1 + 1 + 1, rfl, by rw [ByteArray.size_append, ByteArray.size_append, ByteArray.size_extract, ByteArray.size_extract]; omega, by omega, HG4.out, HR4.out⟩
    · go_wp2
      go_ret
      exact plain _ HG2 HR2
  · by_cases hlt : (k : Int) < (s.size : Int)
    · have hw1 : IntKind.i64.wrap ((k : Int) + 1) = (k : Int) + 1 := by rw [IntKind.wrap_i64]; omega
      have hk2 : (k : Int) + 1 ≤ (s.size : Int) := by omega
      have hk3 : (0 : Int) ≤ (k : Int) + 1 := by omega
      go_wp2_with fail
      refine wp_region_held_drew (S := fun _ => True) (by kernel_rfl) trivial (fun hHeld => ?_)
      generalize hwd : w2.drew = w3 at hHeld ⊢
      have HG3 : Hid (w.grownBy w3 (some R)) := Lib.hid (by rw [← hwd]; exact grown_drew HG2.out)
      have HR3 : Hid (Rdr w3 R B A cb zs (p + 1 + 1)) := Lib.hid (by rw [← hwd]; exact HR2.out.drewN 1)
      clear hwd
      refine wpAnyH_take (i := 0) (v := ?_) rfl (by kernel_rfl) (by kernel_rfl) (by kernel_rfl) (fun _ _ _ h => h) (Or.inl ⟨by kernel_rfl, ?_⟩) hHeld ?_
      rotate_left
      · intro wz hSw
        first
        | (go_simp; done)
        | (go_simp; with_reducible rfl)
        | (go_simp; omega)
      try simp only [Act.put, List.setIfInBounds_toArray, List.set_cons_zero, List.set_cons_succ]
      refine wpAnyH_take (i := 1) (v := ?_) rfl (by kernel_rfl) (by kernel_rfl) (by kernel_rfl) (fun _ _ _ h => h) (Or.inl ⟨by kernel_rfl, ?_⟩) hHeld ?_
      rotate_left
      · intro wz hSw
        first
        | (go_simp; done)
        | (go_simp; with_reducible rfl)
        | (go_simp; omega)
      try simp only [Act.put, List.setIfInBounds_toArray, List.set_cons_zero, List.set_cons_succ]
      refine wpAnyH_take (i := 2) (v := ?_) rfl (by kernel_rfl) (by kernel_rfl) (by kernel_rfl) (fun _ _ _ h => h) (Or.inl ⟨by kernel_rfl, ?_⟩) hHeld ?_
      rotate_left
      · intro wz hSw
        first
        | (go_simp; done)
        | (go_simp; with_reducible rfl)
        | (go_simp; omega)
      try simp only [Act.put, List.setIfInBounds_toArray, List.set_cons_zero, List.set_cons_succ]
      refine wpAnyH_take (i := 3) (v := ?_) rfl (by kernel_rfl) (by kernel_rfl) (by kernel_rfl) (fun _ _ _ h => h) (Or.inl ⟨by kernel_rfl, ?_⟩) hHeld ?_
      rotate_left
      · intro wz hSw
        first
        | (go_simp; done)
        | (go_simp; with_reducible rfl)
        | (go_simp; omega)
      try simp only [Act.put, List.setIfInBounds_toArray, List.set_cons_zero, List.set_cons_succ]
      refine wpAnyH_take (i := 7) (v := ?_) rfl (by kernel_rfl) (by kernel_rfl) (by kernel_rfl) (fun _ _ _ h => h) (Or.inl ⟨by kernel_rfl, ?_⟩) hHeld ?_
      rotate_left
      · intro wz hSw
        first
        | (go_simp; done)
        | (go_simp; with_reducible rfl)
        | (go_simp; omega)
      try simp only [Act.put, List.setIfInBounds_toArray, List.set_cons_zero, List.set_cons_succ]
      refine wpAnyH_take (i := 8) (v := ?_) rfl (by kernel_rfl) (by kernel_rfl) (by kernel_rfl) (fun _ _ _ h => h) (Or.inl ⟨by kernel_rfl, ?_⟩) hHeld ?_
      rotate_left
      · intro wz hSw
        first
        | (go_simp; done)
        | (go_simp; with_reducible rfl)
        | (go_simp; omega)
      try simp only [Act.put, List.setIfInBounds_toArray, List.set_cons_zero, List.set_cons_succ]
      refine wpAnyH_take (i := 9) (v := ?_) rfl (by kernel_rfl) (by kernel_rfl) (by kernel_rfl) (fun _ _ _ h => h) (Or.inl ⟨by kernel_rfl, ?_⟩) hHeld ?_
      rotate_left
      · intro wz hSw
        first
        | (go_simp; done)
        | (go_simp; with_reducible rfl)
        | (go_simp; omega)
      try simp only [Act.put, List.setIfInBounds_toArray, List.set_cons_zero, List.set_cons_succ]
      refine wpAnyH_take (i := 10) (v := ?_) rfl (by kernel_rfl) (by kernel_rfl) (by kernel_rfl) (fun _ _ _ h => h) (Or.inl ⟨by kernel_rfl, ?_⟩) hHeld ?_
      rotate_left
      · intro wz hSw
        first
        | (go_simp; done)
        | (go_simp; with_reducible rfl)
        | (go_simp; omega)
      try simp only [Act.put, List.setIfInBounds_toArray, List.set_cons_zero, List.set_cons_succ]
      refine wpAnyH_ready (rs := [4]) (by kernel_rfl) (by simp) ?_
      refine AllReadyH.cons rfl (fun K hK => ?_) AllReadyH.nil
      go_simp
      refine hK.out _ _ trivial (fun hHeld => ?_)
      clear hK K
      try simp only [Act.put, List.setIfInBounds_toArray, List.set_cons_zero, List.set_cons_succ]
      refine wpAnyH_ready (rs := [5]) (by kernel_rfl) (by simp) ?_
      refine AllReadyH.cons rfl (fun K hK => ?_) AllReadyH.nil
      go_simp
      refine (of_any R B A cb zs (p + 1 + 1) w3.heap.size 9 9 _ (HR3.out.below ((Below.refl _ _).alloc (Nat.le_refl _) _)) (by omega) (by have := HR3.out.lt; omega) (by omega) (by omega) (by refine litS ?_ ?_ <;> first | rfl | decide)).mono ?_
      rintro e w4 ⟨t, rfl, ht, hg, hr⟩
      have HG4 : Hid (w.grownBy w4 (some R)) := Lib.hid (HG3.out.trans ((World.grownBy_alloc _ _ _).trans hg))
      have HR4 := Lib.hid hr
      clear hg hr
      go_simp
      refine hK.out _ _ trivial (fun hHeld => ?_)
      clear hK K
      try simp only [Act.put, List.setIfInBounds_toArray, List.set_cons_zero, List.set_cons_succ]
      refine wpAnyH_take (i := 6) (v := .string (s.extract 0 k ++ t)) rfl (by kernel_rfl) (by kernel_rfl) (by kernel_rfl) (fun _ _ _ h => h) (Or.inl ⟨by kernel_rfl, ?_⟩) hHeld ?_
      · intro wz hSw
        first
        | (go_simp; done)
        | (go_simp; with_reducible rfl)
        | (go_simp; omega)
      try simp only [Act.put, List.setIfInBounds_toArray, List.set_cons_zero, List.set_cons_succ]
      refine wpAnyH_take (i := 11) (v := .string ((s.extract 0 k ++ t) ++ s.extract (k + 1) s.size)) rfl (by kernel_rfl) (by kernel_rfl) (by kernel_rfl) (fun _ _ _ h => h) (Or.inl ⟨by kernel_rfl, ?_⟩) hHeld ?_
      · intro wz hSw
        first
        | (go_simp; done)
        | (go_simp; with_reducible rfl)
        | (go_simp; omega)
      try simp only [Act.put, List.setIfInBounds_toArray, List.set_cons_zero, List.set_cons_succ]
      refine wpAnyH_take (i := 12) (v := ?_) rfl (by kernel_rfl) (by kernel_rfl) (by kernel_rfl) (fun _ _ _ h => h) (Or.inl ⟨by kernel_rfl, ?_⟩) hHeld ?_
      rotate_left
      · intro wz hSw
        first
        | (go_simp; done)
        | (go_simp; with_reducible rfl)
        | (go_simp; omega)
      try simp only [Act.put, List.setIfInBounds_toArray, List.set_cons_zero, List.set_cons_succ]
      refine wpAnyH_done (by kernel_rfl) ?_ _
      try go_simp
      go_wp2
      go_ret
      exact ⟨_, p + 1 + 1 + 1, rfl, by rw [ByteArray.size_append, ByteArray.size_append, ByteArray.size_extract, ByteArray.size_extract]; omega, by omega, HG4.out, HR4.out⟩
    · go_wp2
      go_ret
      exact plain _ HG2 HR2
  · go_wp2
    go_ret
    exact ⟨_, _, rfl, by simp only [ByteArray.size_extract]; omega, by omega, HG2.out, HR2.out⟩
  · go_wp2_with fail
    refine (of_any R B A cb zs (p + 1 + 1) w2.heap.size 5 5 _ (HR2.out.below ((Below.refl _ _).alloc (Nat.le_refl _) _)) (by omega) (by have := HR2.out.lt; omega) (by omega) (by omega) (by refine litS ?_ ?_ <;> first | rfl | decide)).mono ?_
    rintro e w4 ⟨t, rfl, ht, hg, hr⟩
    have HG4 : Hid (w.grownBy w4 (some R)) := Lib.hid (HG2.out.trans ((World.grownBy_alloc _ _ _).trans hg))
    have HR4 := Lib.hid hr
    clear hg hr
    go_wp2
    go_ret
    exact ⟨_, _, rfl, by simp only [ByteArray.size_append]; omega, by omega, HG4.out, HR4.out⟩
  · go_wp2
    go_ret
    exact plain _ HG2 HR2
set_option maxHeartbeats 8000000 in
theorem aText_any (R B : Nat) (A : Option Addr) (cb : Nat) (zs : List Int) (p : Nat) (ds : List D) (b : Int) (Af : Option Addr) (nf cf base : Nat) (w : World) (h : Rdr w R B A cb zs p) (hp : p + 50 ≤ 100000)
    (ho : w.ownsRow base 82 2 (.slice Af nf cf) nf (flat ds)) (hok : ∀ d ∈ ds, d.small) (hRb : R < base) (hn : nf = ds.length) (hn13 : ds.length ≤ 25) :
    Calls Tryz.prog 31 #[.pointer (some ⟨R, 0, none⟩), .agg #[.slice Af nf cf, .int .i64 b]] w (TxRP 2000 R B A cb zs p w) := by
  subst hn
  have hRw := h.lt
  have HSM := Lib.hid hok
  obtain ⟨w0, hw⟩ : ∃ W : World, W = w.alloc (.cells #[.slice Af ds.length cf, .int .i64 b] 25) := ⟨_, rfl⟩
  have hb0 : Below w.heap.size w w0 := by rw [hw]; exact (Below.refl _ _).alloc (Nat.le_refl _) _
  have c0 : w0.cell? ⟨w.heap.size, 0, none⟩ = some (.slice Af ds.length cf) := by rw [hw]; simp [go_sem]
  have lf0 : (w.alloc (.cells #[.slice Af ds.length cf, .int .i64 b] 25)).cell? ⟨w.heap.size, 0, none⟩ = some (.slice Af ds.length cf) := by rw [← hw]; exact c0
  have HR0 := Lib.hid (h.below hb0)
  have HO0 := Lib.hid (own_below ho hb0)
  have HG0 : Hid (w.grownBy w0 (some R)) := Lib.hid (grown_of_below hb0 _)
  have hz0 : w.heap.size + 1 ≤ w0.heap.size := by rw [hw]; simp
  have HW := Lib.hid hw.symm
  clear hw h ho hok hb0
  go_enter Tryz.func31, Tryz.ntmps31
  go_wp2_with fail
  rw [HW.out]
  clear HW lf0
  refine (someNames_any R B A cb zs p ds Af ds.length cf base _ HR0.out (by omega) HO0.out HSM.out hRb rfl hn13).mono ?_
  rintro e w1 ⟨A1, c1, ss, p1, rfl, hs3, hss, hos, hp1, hg, hr⟩
  have HO1 := Lib.hid (own_base hos (show w.heap.size ≤ _ by omega))
  have HG1 : Hid (w.grownBy w1 (some R)) := Lib.hid (HG0.out.trans hg)
  have HR1 := Lib.hid hr
  have HSS := Lib.hid hss
  clear hg hr hos hss HR0 HO0 HG0 c0
  go_wp2_with fail
  refine (pick_any 4 R B A cb zs _ _ HR1.out (by omega) (by omega) (by omega)).mono ?_
  rintro e w2 ⟨m, rfl, ma, mb, hg, hr⟩
  have mc := mb (by omega)
  have HO2 := Lib.hid (HO1.out.kept hg (own_neR HO1.out hRw))
  have HG2 : Hid (w.grownBy w2 (some R)) := Lib.hid (HG1.out.trans hg)
  have HR2 := Lib.hid hr
  have hz2 : w.heap.size ≤ w2.heap.size := HG2.out.size
  clear hg hr mb HO1 HG1 HR1
  have fin : Hid (∀ (W : World) (ws : List ByteArray) (As : Option Addr) (q cs pp : Nat), w.grownBy W (some R) → Rdr W R B A cb zs pp → pp ≤ p + 40 → W.ownsRow w.heap.size 9 1 (.slice As q cs) q (ws.map .string) → (∀ s ∈ ws, s.size ≤ 100) → ws.length ≤ 5 →
      Calls Tryz.prog 64 #[.slice As q cs, .string bar] W (TxRP 2000 R B A cb zs p w)) := Lib.hid (fun W ws As q cs pp g r hpp o hws hl => by
    have hSS : SS W W.heap.size As q cs ws := ss_of_own o (fun s hs => by have := hws s hs; unfold maxLen; omega)
    have h2 : bar.size = 1 := rfl
    refine (joinWith_any ws bar _ _ _ _ hSS 2000 (fun k hk => ?_) (fun s hs => by have := hws s hs; omega) (by decide) (by omega)).mono ?_
    · have h1 := joinW_size (sep := bar) hws k hk
      rw [h2] at h1
      omega
    rintro e w7 ⟨rfl, rfl⟩
    have h1 := joinW_size (sep := bar) hws ws.length (Nat.le_refl _)
    rw [h2, List.take_of_length_le (Nat.le_refl _)] at h1
    exact ⟨_, pp, rfl, by omega, hpp, g, r⟩)
  by_cases hm : m = 0
  · subst hm
    have hb2 : w2.heap.size = w2.heap.size := rfl
    go_wp2_with fail
    refine (of_any R B A cb zs _ w2.heap.size 7 7 _ (HR2.out.below ((Below.refl _ _).alloc (Nat.le_refl _) _)) (by omega) (by have := HR2.out.lt; omega) (by omega) (by omega) (by refine litS ?_ ?_ <;> first | rfl | decide)).mono ?_
    rintro e w4 ⟨t, rfl, ht, hg, hr⟩
    have hg2 : w2.grownBy w4 (some R) := (World.grownBy_alloc _ _ _).trans hg
    have HO4 := Lib.hid (HO2.out.kept hg2 (own_neR HO2.out hRw))
    have HG4 : Hid (w.grownBy w4 (some R)) := Lib.hid (HG2.out.trans hg2)
    have HR4 := Lib.hid hr
    have hz4 : w.heap.size ≤ w4.heap.size := HG4.out.size
    clear hg hr hg2 HO2 HG2 HR2 hb2
    go_wp2_with (at_builtin; refine wpList_app_Sk rfl _ _ rfl w.heap.size _ _ _ rfl HO4.out _ _ _ rfl rfl (by omega) hz4 ?_; intro v' w6 ho6 hg6; obtain ⟨A6, c6, rfl⟩ := own_form ho6; have HO6 := Lib.hid ho6; have HG6 := Lib.hid (grown_rowO HG4.out hg6 (fun q e => (HO4.out.lt q e).1)); have HR6 := Lib.hid (HR4.out.grown hg6 (by intro e; have := (HO4.out.lt _ e.symm).1; omega) (fun q e => by have := (HO4.out.lt _ e).1; have := HR4.out.low; omega)); clear ho6 hg6)
    have HA : Hid (w6.ownsRow w.heap.size 9 1 (.slice A6 (ss.length + 1) c6) (ss.length + 1) ((ss ++ [t]).map .string)) := Lib.hid (by rw [List.map_append]; exact HO6.out)
    have hne : ((ss.length : Int) + 1 == 0) = false := by rw [beq_eq_false_iff_ne]; omega
    go_wp2_with fail
    refine (fin.out _ (ss ++ [t]) _ _ _ _ HG6.out HR6.out (by omega) HA.out (fun s hs => by rcases List.mem_append.1 hs with h | h; exact HSS.out s h; rw [List.mem_singleton.1 h]; exact ht) (by rw [List.length_append, List.length_singleton]; omega)).mono ?_
    rintro e w7 ⟨s, p', rfl, h1, h2, h3, h4⟩
    have H3 := Lib.hid h3
    have H4 := Lib.hid h4
    clear h3 h4
    go_wp2
    go_ret
    exact ⟨s, p', rfl, h1, h2, H3.out, H4.out⟩
  · have hm0 : (m == 0) = false := by rw [beq_eq_false_iff_ne]; exact hm
    by_cases hs0 : ss = []
    · subst hs0
      go_wp2_with fail
      refine (of_any R B A cb zs _ w2.heap.size 3 3 _ (HR2.out.below ((Below.refl _ _).alloc (Nat.le_refl _) _)) (by omega) (by have := HR2.out.lt; omega) (by omega) (by omega) (by refine litS ?_ ?_ <;> first | rfl | decide)).mono ?_
      rintro e w4 ⟨t, rfl, ht, hg, hr⟩
      have hg2 : w2.grownBy w4 (some R) := (World.grownBy_alloc _ _ _).trans hg
      have HG4 : Hid (w.grownBy w4 (some R)) := Lib.hid (HG2.out.trans hg2)
      have HR4 := Lib.hid hr
      have hz4 : w.heap.size ≤ w4.heap.size := HG4.out.size
      clear hg hr hg2 HO2 HG2 HR2
      have hbA : Below w4.heap.size w4 (w4.alloc (.cells #[.string t] 9)) := (Below.refl _ _).alloc (Nat.le_refl _) _
      have HA : Hid ((w4.alloc (.cells #[.string t] 9)).ownsRow w.heap.size 9 1 (.slice (some ⟨w4.heap.size, 0, none⟩) 1 1) 1 ([t].map .string)) := Lib.hid (World.ownsRow_lit (e := 9) (size := 1) (base := w.heap.size) w4 #[.string t] 1 hz4 (by unfold maxLen; omega) rfl)
      have HGA : Hid (w.grownBy (w4.alloc (.cells #[.string t] 9)) (some R)) := Lib.hid (HG4.out.trans (World.grownBy_alloc _ _ _))
      have HRA := Lib.hid (HR4.out.below hbA)
      go_wp2_with fail
      refine (fin.out _ [t] _ _ _ _ HGA.out HRA.out (by omega) HA.out (fun s hs => by rw [List.mem_singleton.1 hs]; exact ht) (by simp)).mono ?_
      rintro e w7 ⟨s, p', rfl, h1, h2, h3, h4⟩
      have H3 := Lib.hid h3
      have H4 := Lib.hid h4
      clear h3 h4
      go_wp2
      go_ret
      exact ⟨s, p', rfl, h1, h2, H3.out, H4.out⟩
    · have hne : ((ss.length : Int) == 0) = false := by
        rw [beq_eq_false_iff_ne]
        intro e
        exact hs0 (List.eq_nil_of_length_eq_zero (by omega))
      clear hs0
      go_wp2_with fail
      refine (fin.out _ ss _ _ _ _ HG2.out HR2.out (by omega) HO2.out HSS.out (by omega)).mono ?_
      rintro e w7 ⟨s, p', rfl, h1, h2, h3, h4⟩
      have H3 := Lib.hid h3
      have H4 := Lib.hid h4
      clear h3 h4
      go_wp2
      go_ret
      exact ⟨s, p', rfl, h1, h2, H3.out, H4.out⟩

def DrawFT (w : World) (e : Ending) (w' : World) : Prop :=
  ∃ (A : Option Addr) (c : Nat) (ds : List D) (b : Int) (s : ByteArray), e = .returned (.tuple #[.agg #[.slice A ds.length c, .int .i64 b], .string s]) ∧ ds.length ≤ 13 ∧ (∀ d ∈ ds, d.small) ∧ (-1 ≤ b ∧ b ≤ 4) ∧ s.size ≤ 4000 ∧ SD w' w'.heap.size A ds.length c ds ∧ Below w.heap.size w w'
set_option maxHeartbeats 16000000 in
theorem drawReadValue_any (A : Option Addr) (n c : Nat) (zs : List Int) (w : World) (h : SB w w.heap.size A n c zs) :
    Calls Tryz.prog 10 #[.slice A n c] w (DrawFT w) := by
  have HS := Lib.hid h
  clear h
  go_enter Tryz.func10, Tryz.ntmps10
  go_wp2_with fail
  refine (newReader_any A n c zs _ (HS.out.allocF _)).mono ?_
  rintro e w1 ⟨R, A1, cb, z1, rfl, hR, hr, hb⟩
  have hwR : w.heap.size ≠ R := by simp at hR; omega
  have HC1 : Hid (C2 w1 w.heap.size (.slice none 0 0) (.int .i64 0)) := Lib.hid ((c2New _ _ _ _).below hb)
  have HB : Hid (Below w.heap.size w w1) := Lib.hid (((Below.refl _ _).alloc (Nat.le_refl _) _).trans (hb.mono (by simp)))
  have HR1 := Lib.hid hr
  have hRl : w.heap.size + 1 ≤ R := by simpa using hR
  have hR1 := HR1.out.lt
  clear hr hb hR
  go_wp2_with fail
  refine (valueInR_any R _ A1 cb z1 0 _ HR1.out (by omega)).mono ?_
  rintro e w2 ⟨A', c', ds, b, x, p2, rfl, hn, hsm, hbd, hx, hown, hg, hp2, hr⟩
  have HC2 := Lib.hid (HC1.out.grown hg (by simpa using hwR))
  have HG2 : Hid (w1.grownBy w2 (some R)) := Lib.hid hg
  have hz2 : w1.heap.size ≤ w2.heap.size := hg.size
  have HO2 := Lib.hid hown
  have HSM := Lib.hid hsm
  have HBD := Lib.hid hbd
  have HR2 := Lib.hid hr
  clear hg hown hsm hbd HC1 HR1 hr
  obtain ⟨w3, hw⟩ : ∃ W : World, W = w2.alloc (.cells #[.slice A' ds.length c', .int .i64 b] 25) := ⟨_, rfl⟩
  have hb : Below w2.heap.size w2 w3 := by rw [hw]; exact (Below.refl _ _).alloc (Nat.le_refl _) _
  have HF3 : Hid (C2 w3 w2.heap.size (.slice A' ds.length c') (.int .i64 b)) := Lib.hid (by rw [hw]; exact c2New _ _ _ _)
  have hz3 : w2.heap.size + 1 ≤ w3.heap.size := by rw [hw]; simp
  have HC3 := Lib.hid (HC2.out.below hb)
  have HO3 := Lib.hid (own_below HO2.out hb)
  have HG3 : Hid (w1.grownBy w3 (some R)) := Lib.hid (HG2.out.trans (grown_of_below hb _))
  have HR3 := Lib.hid (HR2.out.below hb)
  have HW := Lib.hid hw.symm
  have hGR : w2.heap.size ≠ R := by omega
  have n1 : w2.heap.size ≠ w.heap.size := by omega
  have n2 : w.heap.size ≠ w2.heap.size := by omega
  have hGl : w.heap.size ≤ w2.heap.size := by omega
  clear hb hw HC2 HO2 HG2 HR2
  go_wp2_with fail
  rw [HW.out]
  clear HW
  generalize hG : w2.heap.size = G at *
  clear hG
  obtain ⟨v, hv⟩ : ∃ v, mIsV ds b x = v := ⟨_, rfl⟩
  have HV := Lib.hid hv
  clear hv
  refine (specIsV_v ds b x _ _ _ _ (sd_of_own HO3.out (fun d hd => small_ok (HSM.out d hd))) HV.out).mono ?_
  rintro e w4 ⟨rfl, hb⟩
  have HC4 := Lib.hid (HC3.out.below hb)
  have HF4 := Lib.hid (HF3.out.below hb)
  have HO4 := Lib.hid (own_below HO3.out hb)
  have HG4 : Hid (w1.grownBy w4 (some R)) := Lib.hid (HG3.out.trans (grown_of_below hb _))
  have HR4 := Lib.hid (HR3.out.below hb)
  clear hb HC3 HF3 HO3 HG3 HR3
  cases v
  · skip
    obtain ⟨c0, c1, f0, f1⟩ := HC4.out
    obtain ⟨d0, d1, _, _⟩ := HF4.out
    go_wp2_with fail
    refine (aText_any R _ A1 cb z1 p2 ds b A' ds.length c' w1.heap.size _ HR4.out (by omega) HO4.out HSM.out hR1 rfl (by omega)).mono ?_
    rintro e w11 ⟨s, p6, rfl, hs, hp6, hg, hr⟩
    clear c0 c1 f0 f1 d0 d1
    have HC11 := Lib.hid (HC4.out.grown hg (by simpa using hwR))
    have HF11 := Lib.hid (HF4.out.grown hg (by simpa using hGR))
    have HO11 := Lib.hid (HO4.out.kept hg (own_neR HO4.out hR1))
    have HG11 : Hid (w1.grownBy w11 (some R)) := Lib.hid (HG4.out.trans hg)
    have HR11 := Lib.hid hr
    clear hg hr HC4 HF4 HO4 HG4 HR4
    obtain ⟨c0, c1, f0, f1⟩ := HC11.out
    obtain ⟨d0, d1, _, _⟩ := HF11.out
    go_wp2_with fail
    refine (pick_any 6 R _ A1 cb z1 _ _ HR11.out (by omega) (by omega) (by omega)).mono ?_
    rintro e w12 ⟨m6, rfl, m6a, m6b, hg, hr⟩
    clear c0 c1 f0 f1 d0 d1
    have HC12 := Lib.hid (HC11.out.grown hg (by simpa using hwR))
    have HF12 := Lib.hid (HF11.out.grown hg (by simpa using hGR))
    have HO12 := Lib.hid (HO11.out.kept hg (own_neR HO11.out hR1))
    have HG12 : Hid (w1.grownBy w12 (some R)) := Lib.hid (HG11.out.trans hg)
    have HR12 := Lib.hid hr
    clear hg hr HC11 HF11 HO11 HG11 HR11
    by_cases hm6 : m6 = 0
    · subst hm6
      obtain ⟨c0, c1, f0, f1⟩ := HC12.out
      obtain ⟨d0, d1, _, _⟩ := HF12.out
      go_wp2_with fail
      refine (mutate_any R _ A1 cb z1 _ s _ HR12.out (by omega) (by omega)).mono ?_
      rintro e w13 ⟨t, p8, rfl, ht, hp8, hg, hr⟩
      clear c0 c1 f0 f1 d0 d1
      have HC13 := Lib.hid (HC12.out.grown hg (by simpa using hwR))
      have HF13 := Lib.hid (HF12.out.grown hg (by simpa using hGR))
      have HO13 := Lib.hid (HO12.out.kept hg (own_neR HO12.out hR1))
      have HG13 : Hid (w1.grownBy w13 (some R)) := Lib.hid (HG12.out.trans hg)
      have HR13 := Lib.hid hr
      clear hg hr HC12 HF12 HO12 HG12 HR12
      obtain ⟨c0, c1, f0, f1⟩ := HC13.out
      obtain ⟨d0, d1, _, _⟩ := HF13.out
      go_wp2
      refine bodyPost_ret (v := .tuple #[.agg #[.slice A' ds.length c', .int .i64 b], .string t]) (by simp [results, Tryz.results10, go_sem, c0, c1]) rfl ⟨A', c', ds, b, t, rfl, hn, HSM.out, HBD.out, by omega, ?_, ?_⟩
      · exact sd_of_own (own_setCell (own_setCell HO13.out (fun e => by have := (HO13.out.lt _ e).1; simp only at *; omega) _) (fun e => by have := (HO13.out.lt _ e).1; simp only at *; omega) _) (fun d hd => small_ok (HSM.out d hd))
      · exact ((HB.out.grown HG13.out HB.out.size (fun k hk => by cases hk; omega)).setCell (Nat.le_refl _) _).setCell (Nat.le_refl _) _
    · have hm60 : (m6 == 0) = false := by rw [beq_eq_false_iff_ne]; exact hm6
      obtain ⟨c0, c1, f0, f1⟩ := HC12.out
      obtain ⟨d0, d1, _, _⟩ := HF12.out
      go_wp2
      refine bodyPost_ret (v := .tuple #[.agg #[.slice A' ds.length c', .int .i64 b], .string s]) (by simp [results, Tryz.results10, go_sem, c0, c1]) rfl ⟨A', c', ds, b, s, rfl, hn, HSM.out, HBD.out, by omega, ?_, ?_⟩
      · exact sd_of_own (own_setCell (own_setCell HO12.out (fun e => by have := (HO12.out.lt _ e).1; simp only at *; omega) _) (fun e => by have := (HO12.out.lt _ e).1; simp only at *; omega) _) (fun d hd => small_ok (HSM.out d hd))
      · exact ((HB.out.grown HG12.out HB.out.size (fun k hk => by cases hk; omega)).setCell (Nat.le_refl _) _).setCell (Nat.le_refl _) _
  · obtain ⟨p, rfl, hp⟩ := mIsV_nat HV.out
    have hfl := Lib.hid (mIsV_flag HV.out)
    go_wp2_with fail
    refine (pick_any 2 R _ A1 cb z1 _ _ HR4.out (by omega) (by omega) (by omega)).mono ?_
    rintro e w5 ⟨q, rfl, qa, qb, hg, hr⟩
    have HC5 := Lib.hid (HC4.out.grown hg (by simpa using hwR))
    have HF5 := Lib.hid (HF4.out.grown hg (by simpa using hGR))
    have HO5 := Lib.hid (HO4.out.kept hg (own_neR HO4.out hR1))
    have HG5 : Hid (w1.grownBy w5 (some R)) := Lib.hid (HG4.out.trans hg)
    have HR5 := Lib.hid hr
    clear hg hr HC4 HF4 HO4 HG4 HR4
    by_cases hq : q = 0
    · subst hq
      obtain ⟨c0, c1, f0, f1⟩ := HC5.out
      obtain ⟨d0, d1, _, _⟩ := HF5.out
      have HTS : Hid ((mText ds (mIn ds p) p).size ≤ 1000) := Lib.hid (text_size hfl.out (fun d hd => mIn_in hd) (by have := mIn_len ds p; omega) hp)
      have HSH := Lib.hid (fun (A : Option Addr) (m c : Nat) (w : World) (hr : SD w w.heap.size A m c ds) => shown_any ds b p A m c w hr hfl.out hp)
      generalize mText ds (mIn ds p) p = tx at *
      have hz5 : w1.heap.size ≤ w5.heap.size := HG5.out.size
      go_wp2_with fail
      refine wp_region_held_drew (S := fun w' => w'.cell? ⟨G, 0, none⟩ = some (.slice A' ds.length c') ∧ w'.cell? ⟨G, 1, none⟩ = some (.int .i64 b)) (by kernel_rfl) ⟨d0, d1⟩ (fun hHeld => ?_)
      clear c0 c1 f0 f1 d0 d1
      generalize hwd : w5.drew = w6 at hHeld ⊢
      have hb : Below w5.heap.size w5 w6 := by rw [← hwd]; exact (Below.refl _ _).drew
      clear hwd
      have HC6 := Lib.hid (HC5.out.below hb)
      have HF6 := Lib.hid (HF5.out.below hb)
      have HO6 := Lib.hid (own_below HO5.out hb)
      have HG6 : Hid (w1.grownBy w6 (some R)) := Lib.hid (HG5.out.trans (grown_of_below hb _))
      have HR6 := Lib.hid (HR5.out.below hb)
      clear hb HC5 HF5 HO5 HG5 HR5
      refine wpAnyH_take (i := 0) (v := ?_) rfl (by kernel_rfl) (by kernel_rfl) (by kernel_rfl) (fun _ _ _ h => h) (Or.inl ⟨by kernel_rfl, ?_⟩) hHeld ?_
      rotate_left
      · intro wz hSw
        try dsimp only at hSw
        first
        | (go_simp; done)
        | (go_simp; with_reducible rfl)
      try simp only [Act.put, List.setIfInBounds_toArray, List.set_cons_zero, List.set_cons_succ]
      refine wpAnyH_take (i := 1) (v := ?_) rfl (by kernel_rfl) (by kernel_rfl) (by kernel_rfl) (fun _ _ _ h => h) (Or.inl ⟨by kernel_rfl, ?_⟩) hHeld ?_
      rotate_left
      · intro wz hSw
        try dsimp only at hSw
        first
        | (go_simp; done)
        | (go_simp; with_reducible rfl)
      try simp only [Act.put, List.setIfInBounds_toArray, List.set_cons_zero, List.set_cons_succ]
      refine wpAnyH_take (i := 2) (v := ?_) rfl (by kernel_rfl) (by kernel_rfl) (by kernel_rfl) (fun _ _ _ h => h) (Or.inl ⟨by kernel_rfl, ?_⟩) hHeld ?_
      rotate_left
      · intro wz hSw
        try dsimp only at hSw
        first
        | (go_simp; done)
        | (go_simp; with_reducible rfl)
      try simp only [Act.put, List.setIfInBounds_toArray, List.set_cons_zero, List.set_cons_succ]
      refine wpAnyH_ready (rs := [3]) (by kernel_rfl) (by simp) ?_
      refine AllReadyH.cons rfl (fun K hK => ?_) AllReadyH.nil
      go_simp
      refine (HSH.out _ _ _ _ (sd_of_own HO6.out (fun d hd => small_ok (HSM.out d hd)))).mono ?_
      rintro e w7 ⟨rfl, hb⟩
      have HC7 := Lib.hid (HC6.out.below hb)
      have HF7 := Lib.hid (HF6.out.below hb)
      have HO7 := Lib.hid (own_below HO6.out hb)
      have HG7 : Hid (w1.grownBy w7 (some R)) := Lib.hid (HG6.out.trans (grown_of_below hb _))
      have HR7 := Lib.hid (HR6.out.below hb)
      clear hb HC6 HF6 HO6 HG6 HR6
      obtain ⟨c0, c1, f0, f1⟩ := HC7.out
      obtain ⟨d0, d1, _, _⟩ := HF7.out
      go_simp
      refine hK.out _ _ ⟨d0, d1⟩ (fun hHeld => ?_)
      clear hK K
      try simp only [Act.put, List.setIfInBounds_toArray, List.set_cons_zero, List.set_cons_succ]
      refine wpAnyH_ready (rs := [4]) (by kernel_rfl) (by simp) ?_
      refine AllReadyH.cons rfl (fun K hK => ?_) AllReadyH.nil
      go_simp
      refine hK.out _ _ ⟨(World.cell?_setCell_other _ _ _ _ (by simp [n2])).trans ((World.cell?_setCell_other _ _ _ _ (by simp [n2])).trans d0), (World.cell?_setCell_other _ _ _ _ (by simp [n2])).trans ((World.cell?_setCell_other _ _ _ _ (by simp [n2])).trans d1)⟩ (fun hHeld => ?_)
      clear hK K
      try simp only [Act.put, List.setIfInBounds_toArray, List.set_cons_zero, List.set_cons_succ]
      refine wpAnyH_take (i := 5) (v := ?_) rfl (by kernel_rfl) (by kernel_rfl) (by kernel_rfl) (fun _ _ _ h => h) (Or.inl ⟨by kernel_rfl, ?_⟩) hHeld ?_
      rotate_left
      · intro wz hSw
        try dsimp only at hSw
        first
        | (go_simp; done)
        | (go_simp; with_reducible rfl)
      try simp only [Act.put, List.setIfInBounds_toArray, List.set_cons_zero, List.set_cons_succ]
      refine wpAnyH_done (by kernel_rfl) ?_ _
      try go_simp
      go_wp2
      refine bodyPost_ret (v := .tuple #[.agg #[.slice A' ds.length c', .int .i64 b], .string tx]) (by simp [results, Tryz.results10, go_sem, c0, c1]) rfl ⟨A', c', ds, b, tx, rfl, hn, HSM.out, HBD.out, by have := HTS.out; omega, ?_, ?_⟩
      · exact sd_of_own (own_setCell (own_setCell HO7.out (fun e => by have := (HO7.out.lt _ e).1; simp only at *; omega) _) (fun e => by have := (HO7.out.lt _ e).1; simp only at *; omega) _) (fun d hd => small_ok (HSM.out d hd))
      · exact ((HB.out.grown HG7.out HB.out.size (fun k hk => by cases hk; omega)).setCell (Nat.le_refl _) _).setCell (Nat.le_refl _) _
    · have hq0 : (q == 0) = false := by rw [beq_eq_false_iff_ne]; exact hq
      obtain ⟨c0, c1, f0, f1⟩ := HC5.out
      obtain ⟨d0, d1, _, _⟩ := HF5.out
      go_wp2_with fail
      refine (aText_any R _ A1 cb z1 (p2 + 1) ds b A' ds.length c' w1.heap.size _ HR5.out (by omega) HO5.out HSM.out hR1 rfl (by omega)).mono ?_
      rintro e w11 ⟨s, p6, rfl, hs, hp6, hg, hr⟩
      clear c0 c1 f0 f1 d0 d1
      have HC11 := Lib.hid (HC5.out.grown hg (by simpa using hwR))
      have HF11 := Lib.hid (HF5.out.grown hg (by simpa using hGR))
      have HO11 := Lib.hid (HO5.out.kept hg (own_neR HO5.out hR1))
      have HG11 : Hid (w1.grownBy w11 (some R)) := Lib.hid (HG5.out.trans hg)
      have HR11 := Lib.hid hr
      clear hg hr HC5 HF5 HO5 HG5 HR5
      obtain ⟨c0, c1, f0, f1⟩ := HC11.out
      obtain ⟨d0, d1, _, _⟩ := HF11.out
      go_wp2_with fail
      refine (pick_any 6 R _ A1 cb z1 _ _ HR11.out (by omega) (by omega) (by omega)).mono ?_
      rintro e w12 ⟨m6, rfl, m6a, m6b, hg, hr⟩
      clear c0 c1 f0 f1 d0 d1
      have HC12 := Lib.hid (HC11.out.grown hg (by simpa using hwR))
      have HF12 := Lib.hid (HF11.out.grown hg (by simpa using hGR))
      have HO12 := Lib.hid (HO11.out.kept hg (own_neR HO11.out hR1))
      have HG12 : Hid (w1.grownBy w12 (some R)) := Lib.hid (HG11.out.trans hg)
      have HR12 := Lib.hid hr
      clear hg hr HC11 HF11 HO11 HG11 HR11
      by_cases hm6 : m6 = 0
      · subst hm6
        obtain ⟨c0, c1, f0, f1⟩ := HC12.out
        obtain ⟨d0, d1, _, _⟩ := HF12.out
        go_wp2_with fail
        refine (mutate_any R _ A1 cb z1 _ s _ HR12.out (by omega) (by omega)).mono ?_
        rintro e w13 ⟨t, p8, rfl, ht, hp8, hg, hr⟩
        clear c0 c1 f0 f1 d0 d1
        have HC13 := Lib.hid (HC12.out.grown hg (by simpa using hwR))
        have HF13 := Lib.hid (HF12.out.grown hg (by simpa using hGR))
        have HO13 := Lib.hid (HO12.out.kept hg (own_neR HO12.out hR1))
        have HG13 : Hid (w1.grownBy w13 (some R)) := Lib.hid (HG12.out.trans hg)
        have HR13 := Lib.hid hr
        clear hg hr HC12 HF12 HO12 HG12 HR12
        obtain ⟨c0, c1, f0, f1⟩ := HC13.out
        obtain ⟨d0, d1, _, _⟩ := HF13.out
        go_wp2
        refine bodyPost_ret (v := .tuple #[.agg #[.slice A' ds.length c', .int .i64 b], .string t]) (by simp [results, Tryz.results10, go_sem, c0, c1]) rfl ⟨A', c', ds, b, t, rfl, hn, HSM.out, HBD.out, by omega, ?_, ?_⟩
        · exact sd_of_own (own_setCell (own_setCell HO13.out (fun e => by have := (HO13.out.lt _ e).1; simp only at *; omega) _) (fun e => by have := (HO13.out.lt _ e).1; simp only at *; omega) _) (fun d hd => small_ok (HSM.out d hd))
        · exact ((HB.out.grown HG13.out HB.out.size (fun k hk => by cases hk; omega)).setCell (Nat.le_refl _) _).setCell (Nat.le_refl _) _
      · have hm60 : (m6 == 0) = false := by rw [beq_eq_false_iff_ne]; exact hm6
        obtain ⟨c0, c1, f0, f1⟩ := HC12.out
        obtain ⟨d0, d1, _, _⟩ := HF12.out
        go_wp2
        refine bodyPost_ret (v := .tuple #[.agg #[.slice A' ds.length c', .int .i64 b], .string s]) (by simp [results, Tryz.results10, go_sem, c0, c1]) rfl ⟨A', c', ds, b, s, rfl, hn, HSM.out, HBD.out, by omega, ?_, ?_⟩
        · exact sd_of_own (own_setCell (own_setCell HO12.out (fun e => by have := (HO12.out.lt _ e).1; simp only at *; omega) _) (fun e => by have := (HO12.out.lt _ e).1; simp only at *; omega) _) (fun d hd => small_ok (HSM.out d hd))
        · exact ((HB.out.grown HG12.out HB.out.size (fun k hk => by cases hk; omega)).setCell (Nat.le_refl _) _).setCell (Nat.le_refl _) _
end Go.Proofs.YtboehlffbibgmaaGreatDoor
