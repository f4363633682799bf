import Derived.Test.YtiebdhbioccogaaGreatDoorBaseZ
import Derived.Test.YtiebdhbioccogaaGreatDoorBaseM
namespace Go.Proofs.YtiebdhbioccogaaGreatDoor
open Go.RowKit
set_option linter.unusedVariables false
set_option linter.unusedSimpArgs false
set_option maxRecDepth 100000

/-- What valueIn makes, and the reader behind it. -/
def GenFR (R B : Nat) (A : Option Addr) (cb : Nat) (zs : List Int) (p : Nat) (w : World) (e : Ending) (w' : World) : Prop :=
  ∃ (A' : Option Addr) (c : Nat) (ds : List D) (b x : Int) (p' : Nat), e = .returned (.tuple #[.agg #[.slice A' ds.length c, .int .i64 b], .int .i64 x]) ∧ ds.length ≤ 13 ∧ (∀ d ∈ ds, d.small) ∧ (-1 ≤ b ∧ b ≤ 4) ∧ (-1 ≤ x ∧ x ≤ 4096) ∧
    w'.ownsRow w.heap.size 108 2 (.slice A' ds.length c) ds.length (flat ds) ∧ w.grownBy w' (some R) ∧ p' ≤ p + 200 ∧ Rdr w' R B A cb zs p'

/-- A drawn text, and the reader behind it. -/
def TxRP (M R B : Nat) (A : Option Addr) (cb : Nat) (zs : List Int) (p : Nat) (w : World) (e : Ending) (w' : World) : Prop :=
  ∃ (s : ByteArray) (p' : Nat), e = .returned (.string s) ∧ s.size ≤ M ∧ p' ≤ p + 40 ∧ w.grownBy w' (some R) ∧ Rdr w' R B A cb zs p'
set_option maxHeartbeats 8000000 in
theorem mutate_any (R B : Nat) (A : Option Addr) (cb : Nat) (zs : List Int) (p : Nat) (s : ByteArray) (w : World) (h : Rdr w R B A cb zs p) (hp : p + 10 ≤ 100000) (hs : s.size ≤ 4500) :
    Calls Tryz.prog 21 #[.pointer (some ⟨R, 0, none⟩), .string s] w (TxRP (s.size + 100) R B A cb zs p w) := by
  have hRw := h.lt
  have HR := Lib.hid h
  clear h
  go_enter Tryz.func21, Tryz.ntmps21
  go_wp2_with fail
  refine (pick_any ((s.size : Int) + 1) R B A cb zs p _ HR.out (by omega) (by omega) (by omega)).mono ?_
  rintro e w1 ⟨q, rfl, qa, qb, hg, hr⟩
  have qc := qb (by omega)
  obtain ⟨k, rfl⟩ := Int.eq_ofNat_of_zero_le qa
  have HG1 := Lib.hid hg
  have HR1 := Lib.hid hr
  clear hg hr qb qa HR
  go_wp2_with fail
  refine (pick_any 5 R B A cb zs _ _ HR1.out (by omega) (by omega) (by omega)).mono ?_
  rintro e w2 ⟨m, rfl, ma, mb, hg, hr⟩
  have mc := mb (by omega)
  have HG2 := Lib.hid (HG1.out.trans hg)
  have HR2 := Lib.hid hr
  have hz2 : w.heap.size ≤ w2.heap.size := HG2.out.size
  clear hg hr mb HG1 HR1
  have hm : m = 0 ∨ m = 1 ∨ m = 2 ∨ m = 3 ∨ m = 4 := by omega
  have hk0 : (0 : Int) ≤ (k : Int) := by omega
  have hk1 : (k : Int) ≤ (s.size : Int) := by omega
  have plain : ∀ W : World, Hid (w.grownBy W (some R)) → Hid (Rdr W R B A cb zs (p + 1 + 1)) → TxRP (s.size + 100) R B A cb zs p w (.returned (.string s)) W := fun W g r => ⟨s, _, rfl, by omega, by omega, g.out, r.out⟩
  rcases hm with rfl | rfl | rfl | rfl | rfl
  · by_cases hlt : (k : Int) < (s.size : Int)
    · have hw1 : IntKind.i64.wrap ((k : Int) + 1) = (k : Int) + 1 := by rw [IntKind.wrap_i64]; omega
      have hk2 : (k : Int) + 1 ≤ (s.size : Int) := by omega
      have hk3 : (0 : Int) ≤ (k : Int) + 1 := by omega
      go_wp2_with fail
      refine wp_region_held_drew (S := fun _ => True) (by kernel_rfl) trivial (fun hHeld => ?_)
      generalize hwd : w2.drew = w3 at hHeld ⊢
      have HG3 : Hid (w.grownBy w3 (some R)) := Lib.hid (by rw [← hwd]; exact grown_drew HG2.out)
      have HR3 : Hid (Rdr w3 R B A cb zs (p + 1 + 1)) := Lib.hid (by rw [← hwd]; exact HR2.out.drewN 1)
      clear hwd
      refine wpAnyH_take (i := 0) (v := ?_) rfl (by kernel_rfl) (by kernel_rfl) (by kernel_rfl) (fun _ _ _ h => h) (Or.inl ⟨by kernel_rfl, ?_⟩) hHeld ?_
      rotate_left
      · intro wz hSw
        first
        | (go_simp; done)
        | (go_simp; with_reducible rfl)
        | (go_simp; omega)
      try simp only [Act.put, List.setIfInBounds_toArray, List.set_cons_zero, List.set_cons_succ]
      refine wpAnyH_take (i := 1) (v := ?_) rfl (by kernel_rfl) (by kernel_rfl) (by kernel_rfl) (fun _ _ _ h => h) (Or.inl ⟨by kernel_rfl, ?_⟩) hHeld ?_
      rotate_left
      · intro wz hSw
        first
        | (go_simp; done)
        | (go_simp; with_reducible rfl)
        | (go_simp; omega)
      try simp only [Act.put, List.setIfInBounds_toArray, List.set_cons_zero, List.set_cons_succ]
      refine wpAnyH_take (i := 2) (v := ?_) rfl (by kernel_rfl) (by kernel_rfl) (by kernel_rfl) (fun _ _ _ h => h) (Or.inl ⟨by kernel_rfl, ?_⟩) hHeld ?_
      rotate_left
      · intro wz hSw
        first
        | (go_simp; done)
        | (go_simp; with_reducible rfl)
        | (go_simp; omega)
      try simp only [Act.put, List.setIfInBounds_toArray, List.set_cons_zero, List.set_cons_succ]
      refine wpAnyH_take (i := 3) (v := ?_) rfl (by kernel_rfl) (by kernel_rfl) (by kernel_rfl) (fun _ _ _ h => h) (Or.inl ⟨by kernel_rfl, ?_⟩) hHeld ?_
      rotate_left
      · intro wz hSw
        first
        | (go_simp; done)
        | (go_simp; with_reducible rfl)
        | (go_simp; omega)
      try simp only [Act.put, List.setIfInBounds_toArray, List.set_cons_zero, List.set_cons_succ]
      refine wpAnyH_take (i := 7) (v := ?_) rfl (by kernel_rfl) (by kernel_rfl) (by kernel_rfl) (fun _ _ _ h => h) (Or.inl ⟨by kernel_rfl, ?_⟩) hHeld ?_
      rotate_left
      · intro wz hSw
        first
        | (go_simp; done)
        | (go_simp; with_reducible rfl)
        | (go_simp; omega)
      try simp only [Act.put, List.setIfInBounds_toArray, List.set_cons_zero, List.set_cons_succ]
      refine wpAnyH_take (i := 8) (v := ?_) rfl (by kernel_rfl) (by kernel_rfl) (by kernel_rfl) (fun _ _ _ h => h) (Or.inl ⟨by kernel_rfl, ?_⟩) hHeld ?_
      rotate_left
      · intro wz hSw
        first
        | (go_simp; done)
        | (go_simp; with_reducible rfl)
        | (go_simp; omega)
      try simp only [Act.put, List.setIfInBounds_toArray, List.set_cons_zero, List.set_cons_succ]
      refine wpAnyH_take (i := 9) (v := ?_) rfl (by kernel_rfl) (by kernel_rfl) (by kernel_rfl) (fun _ _ _ h => h) (Or.inl ⟨by kernel_rfl, ?_⟩) hHeld ?_
      rotate_left
      · intro wz hSw
        first
        | (go_simp; done)
        | (go_simp; with_reducible rfl)
        | (go_simp; omega)
      try simp only [Act.put, List.setIfInBounds_toArray, List.set_cons_zero, List.set_cons_succ]
      refine wpAnyH_take (i := 10) (v := ?_) rfl (by kernel_rfl) (by kernel_rfl) (by kernel_rfl) (fun _ _ _ h => h) (Or.inl ⟨by kernel_rfl, ?_⟩) hHeld ?_
      rotate_left
      · intro wz hSw
        first
        | (go_simp; done)
        | (go_simp; with_reducible rfl)
        | (go_simp; omega)
      try simp only [Act.put, List.setIfInBounds_toArray, List.set_cons_zero, List.set_cons_succ]
      refine wpAnyH_ready (rs := [4]) (by kernel_rfl) (by simp) ?_
      refine AllReadyH.cons rfl (fun K hK => ?_) AllReadyH.nil
      go_simp
      refine hK.out _ _ trivial (fun hHeld => ?_)
      clear hK K
      try simp only [Act.put, List.setIfInBounds_toArray, List.set_cons_zero, List.set_cons_succ]
      refine wpAnyH_ready (rs := [5]) (by kernel_rfl) (by simp) ?_
      refine AllReadyH.cons rfl (fun K hK => ?_) AllReadyH.nil
      go_simp
      refine (of_any R B A cb zs (p + 1 + 1) w3.heap.size 9 9 _ (HR3.out.below ((Below.refl _ _).alloc (Nat.le_refl _) _)) (by omega) (by have := HR3.out.lt; omega) (by omega) (by omega) (by refine litS ?_ ?_ <;> first | rfl | decide)).mono ?_
      rintro e w4 ⟨t, rfl, ht, hg, hr⟩
      have HG4 : Hid (w.grownBy w4 (some R)) := Lib.hid (HG3.out.trans ((World.grownBy_alloc _ _ _).trans hg))
      have HR4 := Lib.hid hr
      clear hg hr
      go_simp
      refine hK.out _ _ trivial (fun hHeld => ?_)
      clear hK K
      try simp only [Act.put, List.setIfInBounds_toArray, List.set_cons_zero, List.set_cons_succ]
      refine wpAnyH_take (i := 6) (v := .string (s.extract 0 k ++ t)) rfl (by kernel_rfl) (by kernel_rfl) (by kernel_rfl) (fun _ _ _ h => h) (Or.inl ⟨by kernel_rfl, ?_⟩) hHeld ?_
      · intro wz hSw
        first
        | (go_simp; done)
        | (go_simp; with_reducible rfl)
        | (go_simp; omega)
      try simp only [Act.put, List.setIfInBounds_toArray, List.set_cons_zero, List.set_cons_succ]
      refine wpAnyH_take (i := 11) (v := .string ((s.extract 0 k ++ t) ++ s.extract (k + 1) s.size)) rfl (by kernel_rfl) (by kernel_rfl) (by kernel_rfl) (fun _ _ _ h => h) (Or.inl ⟨by kernel_rfl, ?_⟩) hHeld ?_
      · intro wz hSw
        first
        | (go_simp; done)
        | (go_simp; with_reducible rfl)
        | (go_simp; omega)
      try simp only [Act.put, List.setIfInBounds_toArray, List.set_cons_zero, List.set_cons_succ]
      refine wpAnyH_take (i := 12) (v := ?_) rfl (by kernel_rfl) (by kernel_rfl) (by kernel_rfl) (fun _ _ _ h => h) (Or.inl ⟨by kernel_rfl, ?_⟩) hHeld ?_
      rotate_left
      · intro wz hSw
        first
        | (go_simp; done)
        | (go_simp; with_reducible rfl)
        | (go_simp; omega)
      try simp only [Act.put, List.setIfInBounds_toArray, List.set_cons_zero, List.set_cons_succ]
      refine wpAnyH_done (by kernel_rfl) ?_ _
      try go_simp
      go_wp2
      go_ret
      exact ⟨_, p + 1 + 1 + 1, rfl, by rw [ByteArray.size_append, ByteArray.size_append, ByteArray.size_extract, ByteArray.size_extract]; omega, by omega, HG4.out, HR4.out⟩
    · go_wp2
      go_ret
      exact plain _ HG2 HR2
  · by_cases hlt : (k : Int) < (s.size : Int)
    · have hw1 : IntKind.i64.wrap ((k : Int) + 1) = (k : Int) + 1 := by rw [IntKind.wrap_i64]; omega
      have hk2 : (k : Int) + 1 ≤ (s.size : Int) := by omega
      have hk3 : (0 : Int) ≤ (k : Int) + 1 := by omega
      go_wp2_with fail
      refine wp_region_held_drew (S := fun _ => True) (by kernel_rfl) trivial (fun hHeld => ?_)
      generalize hwd : w2.drew = w3 at hHeld ⊢
      have HG3 : Hid (w.grownBy w3 (some R)) := Lib.hid (by rw [← hwd]; exact grown_drew HG2.out)
      have HR3 : Hid (Rdr w3 R B A cb zs (p + 1 + 1)) := Lib.hid (by rw [← hwd]; exact HR2.out.drewN 1)
      clear hwd
      refine wpAnyH_take (i := 0) (v := ?_) rfl (by kernel_rfl) (by kernel_rfl) (by kernel_rfl) (fun _ _ _ h => h) (Or.inl ⟨by kernel_rfl, ?_⟩) hHeld ?_
      rotate_left
      · intro wz hSw
        first
        | (go_simp; done)
        | (go_simp; with_reducible rfl)
        | (go_simp; omega)
      try simp only [Act.put, List.setIfInBounds_toArray, List.set_cons_zero, List.set_cons_succ]
      refine wpAnyH_take (i := 1) (v := ?_) rfl (by kernel_rfl) (by kernel_rfl) (by kernel_rfl) (fun _ _ _ h => h) (Or.inl ⟨by kernel_rfl, ?_⟩) hHeld ?_
      rotate_left
      · intro wz hSw
        first
        | (go_simp; done)
        | (go_simp; with_reducible rfl)
        | (go_simp; omega)
      try simp only [Act.put, List.setIfInBounds_toArray, List.set_cons_zero, List.set_cons_succ]
      refine wpAnyH_take (i := 2) (v := ?_) rfl (by kernel_rfl) (by kernel_rfl) (by kernel_rfl) (fun _ _ _ h => h) (Or.inl ⟨by kernel_rfl, ?_⟩) hHeld ?_
      rotate_left
      · intro wz hSw
        first
        | (go_simp; done)
        | (go_simp; with_reducible rfl)
        | (go_simp; omega)
      try simp only [Act.put, List.setIfInBounds_toArray, List.set_cons_zero, List.set_cons_succ]
      refine wpAnyH_take (i := 3) (v := ?_) rfl (by kernel_rfl) (by kernel_rfl) (by kernel_rfl) (fun _ _ _ h => h) (Or.inl ⟨by kernel_rfl, ?_⟩) hHeld ?_
      rotate_left
      · intro wz hSw
        first
        | (go_simp; done)
        | (go_simp; with_reducible rfl)
        | (go_simp; omega)
      try simp only [Act.put, List.setIfInBounds_toArray, List.set_cons_zero, List.set_cons_succ]
      refine wpAnyH_take (i := 7) (v := ?_) rfl (by kernel_rfl) (by kernel_rfl) (by kernel_rfl) (fun _ _ _ h => h) (Or.inl ⟨by kernel_rfl, ?_⟩) hHeld ?_
      rotate_left
      · intro wz hSw
        first
        | (go_simp; done)
        | (go_simp; with_reducible rfl)
        | (go_simp; omega)
      try simp only [Act.put, List.setIfInBounds_toArray, List.set_cons_zero, List.set_cons_succ]
      refine wpAnyH_take (i := 8) (v := ?_) rfl (by kernel_rfl) (by kernel_rfl) (by kernel_rfl) (fun _ _ _ h => h) (Or.inl ⟨by kernel_rfl, ?_⟩) hHeld ?_
      rotate_left
      · intro wz hSw
        first
        | (go_simp; done)
        | (go_simp; with_reducible rfl)
        | (go_simp; omega)
      try simp only [Act.put, List.setIfInBounds_toArray, List.set_cons_zero, List.set_cons_succ]
      refine wpAnyH_take (i := 9) (v := ?_) rfl (by kernel_rfl) (by kernel_rfl) (by kernel_rfl) (fun _ _ _ h => h) (Or.inl ⟨by kernel_rfl, ?_⟩) hHeld ?_
      rotate_left
      · intro wz hSw
        first
        | (go_simp; done)
        | (go_simp; with_reducible rfl)
        | (go_simp; omega)
      try simp only [Act.put, List.setIfInBounds_toArray, List.set_cons_zero, List.set_cons_succ]
      refine wpAnyH_take (i := 10) (v := ?_) rfl (by kernel_rfl) (by kernel_rfl) (by kernel_rfl) (fun _ _ _ h => h) (Or.inl ⟨by kernel_rfl, ?_⟩) hHeld ?_
      rotate_left
      · intro wz hSw
        first
        | (go_simp; done)
        | (go_simp; with_reducible rfl)
        | (go_simp; omega)
      try simp only [Act.put, List.setIfInBounds_toArray, List.set_cons_zero, List.set_cons_succ]
      refine wpAnyH_ready (rs := [4]) (by kernel_rfl) (by simp) ?_
      refine AllReadyH.cons rfl (fun K hK => ?_) AllReadyH.nil
      go_simp
      refine hK.out _ _ trivial (fun hHeld => ?_)
      clear hK K
      try simp only [Act.put, List.setIfInBounds_toArray, List.set_cons_zero, List.set_cons_succ]
      refine wpAnyH_ready (rs := [5]) (by kernel_rfl) (by simp) ?_
      refine AllReadyH.cons rfl (fun K hK => ?_) AllReadyH.nil
      go_simp
      refine (of_any R B A cb zs (p + 1 + 1) w3.heap.size 9 9 _ (HR3.out.below ((Below.refl _ _).alloc (Nat.le_refl _) _)) (by omega) (by have := HR3.out.lt; omega) (by omega) (by omega) (by refine litS ?_ ?_ <;> first | rfl | decide)).mono ?_
      rintro e w4 ⟨t, rfl, ht, hg, hr⟩
      have HG4 : Hid (w.grownBy w4 (some R)) := Lib.hid (HG3.out.trans ((World.grownBy_alloc _ _ _).trans hg))
      have HR4 := Lib.hid hr
      clear hg hr
      go_simp
      refine hK.out _ _ trivial (fun hHeld => ?_)
      clear hK K
      try simp only [Act.put, List.setIfInBounds_toArray, List.set_cons_zero, List.set_cons_succ]
      refine wpAnyH_take (i := 6) (v := .string (s.extract 0 k ++ t)) rfl (by kernel_rfl) (by kernel_rfl) (by kernel_rfl) (fun _ _ _ h => h) (Or.inl ⟨by kernel_rfl, ?_⟩) hHeld ?_
      · intro wz hSw
        first
        | (go_simp; done)
        | (go_simp; with_reducible rfl)
        | (go_simp; omega)
      try simp only [Act.put, List.setIfInBounds_toArray, List.set_cons_zero, List.set_cons_succ]
      refine wpAnyH_take (i := 11) (v := .string ((s.extract 0 k ++ t) ++ s.extract (k + 1) s.size)) rfl (by kernel_rfl) (by kernel_rfl) (by kernel_rfl) (fun _ _ _ h => h) (Or.inl ⟨by kernel_rfl, ?_⟩) hHeld ?_
      · intro wz hSw
        first
        | (go_simp; done)
        | (go_simp; with_reducible rfl)
        | (go_simp; omega)
      try simp only [Act.put, List.setIfInBounds_toArray, List.set_cons_zero, List.set_cons_succ]
      refine wpAnyH_take (i := 12) (v := ?_) rfl (by kernel_rfl) (by kernel_rfl) (by kernel_rfl) (fun _ _ _ h => h) (Or.inl ⟨by kernel_rfl, ?_⟩) hHeld ?_
      rotate_left
      · intro wz hSw
        first
        | (go_simp; done)
        | (go_simp; with_reducible rfl)
        | (go_simp; omega)
      try simp only [Act.put, List.setIfInBounds_toArray, List.set_cons_zero, List.set_cons_succ]
      refine wpAnyH_done (by kernel_rfl) ?_ _
      try go_simp
      go_wp2
      go_ret
      exact ⟨_, p + 1 + 1 + 1, rfl, by rw [ByteArray.size_append, ByteArray.size_append, ByteArray.size_extract, ByteArray.size_extract]; omega, by omega, HG4.out, HR4.out⟩
    · go_wp2
      go_ret
      exact plain _ HG2 HR2
  · go_wp2
    go_ret
    exact ⟨_, _, rfl, by simp only [ByteArray.size_extract]; omega, by omega, HG2.out, HR2.out⟩
  · go_wp2_with fail
    refine (of_any R B A cb zs (p + 1 + 1) w2.heap.size 5 5 _ (HR2.out.below ((Below.refl _ _).alloc (Nat.le_refl _) _)) (by omega) (by have := HR2.out.lt; omega) (by omega) (by omega) (by refine litS ?_ ?_ <;> first | rfl | decide)).mono ?_
    rintro e w4 ⟨t, rfl, ht, hg, hr⟩
    have HG4 : Hid (w.grownBy w4 (some R)) := Lib.hid (HG2.out.trans ((World.grownBy_alloc _ _ _).trans hg))
    have HR4 := Lib.hid hr
    clear hg hr
    go_wp2
    go_ret
    exact ⟨_, _, rfl, by simp only [ByteArray.size_append]; omega, by omega, HG4.out, HR4.out⟩
  · go_wp2
    go_ret
    exact plain _ HG2 HR2
set_option maxHeartbeats 8000000 in
theorem aText_any (R B : Nat) (A : Option Addr) (cb : Nat) (zs : List Int) (p : Nat) (ds : List D) (b : Int) (Af : Option Addr) (nf cf base : Nat) (w : World) (h : Rdr w R B A cb zs p) (hp : p + 50 ≤ 100000)
    (ho : w.ownsRow base 108 2 (.slice Af nf cf) nf (flat ds)) (hok : ∀ d ∈ ds, d.small) (hRb : R < base) (hn : nf = ds.length) (hn13 : ds.length ≤ 25) :
    Calls Tryz.prog 23 #[.pointer (some ⟨R, 0, none⟩), .agg #[.slice Af nf cf, .int .i64 b]] w (TxRP 2000 R B A cb zs p w) := by
  subst hn
  have hRw := h.lt
  have HSM := Lib.hid hok
  obtain ⟨w0, hw⟩ : ∃ W : World, W = w.alloc (.cells #[.slice Af ds.length cf, .int .i64 b] 35) := ⟨_, rfl⟩
  have hb0 : Below w.heap.size w w0 := by rw [hw]; exact (Below.refl _ _).alloc (Nat.le_refl _) _
  have c0 : w0.cell? ⟨w.heap.size, 0, none⟩ = some (.slice Af ds.length cf) := by rw [hw]; simp [go_sem]
  have lf0 : (w.alloc (.cells #[.slice Af ds.length cf, .int .i64 b] 35)).cell? ⟨w.heap.size, 0, none⟩ = some (.slice Af ds.length cf) := by rw [← hw]; exact c0
  have HR0 := Lib.hid (h.below hb0)
  have HO0 := Lib.hid (own_below ho hb0)
  have HG0 : Hid (w.grownBy w0 (some R)) := Lib.hid (grown_of_below hb0 _)
  have hz0 : w.heap.size + 1 ≤ w0.heap.size := by rw [hw]; simp
  have HW := Lib.hid hw.symm
  clear hw h ho hok hb0
  go_enter Tryz.func23, Tryz.ntmps23
  go_wp2_with fail
  rw [HW.out]
  clear HW lf0
  refine (someNames_any R B A cb zs p ds Af ds.length cf base _ HR0.out (by omega) HO0.out HSM.out hRb rfl hn13).mono ?_
  rintro e w1 ⟨A1, c1, ss, p1, rfl, hs3, hss, hos, hp1, hg, hr⟩
  have HO1 := Lib.hid (own_base hos (show w.heap.size ≤ _ by omega))
  have HG1 : Hid (w.grownBy w1 (some R)) := Lib.hid (HG0.out.trans hg)
  have HR1 := Lib.hid hr
  have HSS := Lib.hid hss
  clear hg hr hos hss HR0 HO0 HG0 c0
  go_wp2_with fail
  refine (pick_any 4 R B A cb zs _ _ HR1.out (by omega) (by omega) (by omega)).mono ?_
  rintro e w2 ⟨m, rfl, ma, mb, hg, hr⟩
  have mc := mb (by omega)
  have HO2 := Lib.hid (HO1.out.kept hg (own_neR HO1.out hRw))
  have HG2 : Hid (w.grownBy w2 (some R)) := Lib.hid (HG1.out.trans hg)
  have HR2 := Lib.hid hr
  have hz2 : w.heap.size ≤ w2.heap.size := HG2.out.size
  clear hg hr mb HO1 HG1 HR1
  have fin : Hid (∀ (W : World) (ws : List ByteArray) (As : Option Addr) (q cs pp : Nat), w.grownBy W (some R) → Rdr W R B A cb zs pp → pp ≤ p + 40 → W.ownsRow w.heap.size 9 1 (.slice As q cs) q (ws.map .string) → (∀ s ∈ ws, s.size ≤ 100) → ws.length ≤ 5 →
      Calls Tryz.prog 61 #[.slice As q cs, .string bar] W (TxRP 2000 R B A cb zs p w)) := Lib.hid (fun W ws As q cs pp g r hpp o hws hl => by
    have hSS : SS W W.heap.size As q cs ws := ss_of_own o (fun s hs => by have := hws s hs; unfold maxLen; omega)
    have h2 : bar.size = 1 := rfl
    refine (joinWith_any ws bar _ _ _ _ hSS 2000 (fun k hk => ?_) (fun s hs => by have := hws s hs; omega) (by decide) (by omega)).mono ?_
    · have h1 := joinW_size (sep := bar) hws k hk
      rw [h2] at h1
      omega
    rintro e w7 ⟨rfl, rfl⟩
    have h1 := joinW_size (sep := bar) hws ws.length (Nat.le_refl _)
    rw [h2, List.take_of_length_le (Nat.le_refl _)] at h1
    exact ⟨_, pp, rfl, by omega, hpp, g, r⟩)
  by_cases hm : m = 0
  · subst hm
    have hb2 : w2.heap.size = w2.heap.size := rfl
    go_wp2_with fail
    refine (of_any R B A cb zs _ w2.heap.size 7 7 _ (HR2.out.below ((Below.refl _ _).alloc (Nat.le_refl _) _)) (by omega) (by have := HR2.out.lt; omega) (by omega) (by omega) (by refine litS ?_ ?_ <;> first | rfl | decide)).mono ?_
    rintro e w4 ⟨t, rfl, ht, hg, hr⟩
    have hg2 : w2.grownBy w4 (some R) := (World.grownBy_alloc _ _ _).trans hg
    have HO4 := Lib.hid (HO2.out.kept hg2 (own_neR HO2.out hRw))
    have HG4 : Hid (w.grownBy w4 (some R)) := Lib.hid (HG2.out.trans hg2)
    have HR4 := Lib.hid hr
    have hz4 : w.heap.size ≤ w4.heap.size := HG4.out.size
    clear hg hr hg2 HO2 HG2 HR2 hb2
    go_wp2_with (at_builtin; refine wpList_app_Sk rfl _ _ rfl w.heap.size _ _ _ rfl HO4.out _ _ _ rfl rfl (by omega) hz4 ?_; intro v' w6 ho6 hg6; obtain ⟨A6, c6, rfl⟩ := own_form ho6; have HO6 := Lib.hid ho6; have HG6 := Lib.hid (grown_rowO HG4.out hg6 (fun q e => (HO4.out.lt q e).1)); have HR6 := Lib.hid (HR4.out.grown hg6 (by intro e; have := (HO4.out.lt _ e.symm).1; omega) (fun q e => by have := (HO4.out.lt _ e).1; have := HR4.out.low; omega)); clear ho6 hg6)
    have HA : Hid (w6.ownsRow w.heap.size 9 1 (.slice A6 (ss.length + 1) c6) (ss.length + 1) ((ss ++ [t]).map .string)) := Lib.hid (by rw [List.map_append]; exact HO6.out)
    have hne : ((ss.length : Int) + 1 == 0) = false := by rw [beq_eq_false_iff_ne]; omega
    go_wp2_with fail
    refine (fin.out _ (ss ++ [t]) _ _ _ _ HG6.out HR6.out (by omega) HA.out (fun s hs => by rcases List.mem_append.1 hs with h | h; exact HSS.out s h; rw [List.mem_singleton.1 h]; exact ht) (by rw [List.length_append, List.length_singleton]; omega)).mono ?_
    rintro e w7 ⟨s, p', rfl, h1, h2, h3, h4⟩
    have H3 := Lib.hid h3
    have H4 := Lib.hid h4
    clear h3 h4
    go_wp2
    go_ret
    exact ⟨s, p', rfl, h1, h2, H3.out, H4.out⟩
  · have hm0 : (m == 0) = false := by rw [beq_eq_false_iff_ne]; exact hm
    by_cases hs0 : ss = []
    · subst hs0
      go_wp2_with fail
      refine (of_any R B A cb zs _ w2.heap.size 3 3 _ (HR2.out.below ((Below.refl _ _).alloc (Nat.le_refl _) _)) (by omega) (by have := HR2.out.lt; omega) (by omega) (by omega) (by refine litS ?_ ?_ <;> first | rfl | decide)).mono ?_
      rintro e w4 ⟨t, rfl, ht, hg, hr⟩
      have hg2 : w2.grownBy w4 (some R) := (World.grownBy_alloc _ _ _).trans hg
      have HG4 : Hid (w.grownBy w4 (some R)) := Lib.hid (HG2.out.trans hg2)
      have HR4 := Lib.hid hr
      have hz4 : w.heap.size ≤ w4.heap.size := HG4.out.size
      clear hg hr hg2 HO2 HG2 HR2
      have hbA : Below w4.heap.size w4 (w4.alloc (.cells #[.string t] 9)) := (Below.refl _ _).alloc (Nat.le_refl _) _
      have HA : Hid ((w4.alloc (.cells #[.string t] 9)).ownsRow w.heap.size 9 1 (.slice (some ⟨w4.heap.size, 0, none⟩) 1 1) 1 ([t].map .string)) := Lib.hid (World.ownsRow_lit (e := 9) (size := 1) (base := w.heap.size) w4 #[.string t] 1 hz4 (by unfold maxLen; omega) rfl)
      have HGA : Hid (w.grownBy (w4.alloc (.cells #[.string t] 9)) (some R)) := Lib.hid (HG4.out.trans (World.grownBy_alloc _ _ _))
      have HRA := Lib.hid (HR4.out.below hbA)
      go_wp2_with fail
      refine (fin.out _ [t] _ _ _ _ HGA.out HRA.out (by omega) HA.out (fun s hs => by rw [List.mem_singleton.1 hs]; exact ht) (by simp)).mono ?_
      rintro e w7 ⟨s, p', rfl, h1, h2, h3, h4⟩
      have H3 := Lib.hid h3
      have H4 := Lib.hid h4
      clear h3 h4
      go_wp2
      go_ret
      exact ⟨s, p', rfl, h1, h2, H3.out, H4.out⟩
    · have hne : ((ss.length : Int) == 0) = false := by
        rw [beq_eq_false_iff_ne]
        intro e
        exact hs0 (List.eq_nil_of_length_eq_zero (by omega))
      clear hs0
      go_wp2_with fail
      refine (fin.out _ ss _ _ _ _ HG2.out HR2.out (by omega) HO2.out HSS.out (by omega)).mono ?_
      rintro e w7 ⟨s, p', rfl, h1, h2, h3, h4⟩
      have H3 := Lib.hid h3
      have H4 := Lib.hid h4
      clear h3 h4
      go_wp2
      go_ret
      exact ⟨s, p', rfl, h1, h2, H3.out, H4.out⟩

def DrawFT (w : World) (e : Ending) (w' : World) : Prop :=
  ∃ (A : Option Addr) (c : Nat) (ds : List D) (b : Int) (s : ByteArray), e = .returned (.tuple #[.agg #[.slice A ds.length c, .int .i64 b], .string s]) ∧ ds.length ≤ 13 ∧ (∀ d ∈ ds, d.small) ∧ (-1 ≤ b ∧ b ≤ 4) ∧ s.size ≤ 4000 ∧ SD w' w'.heap.size A ds.length c ds ∧ Below w.heap.size w w'
end Go.Proofs.YtiebdhbioccogaaGreatDoor
