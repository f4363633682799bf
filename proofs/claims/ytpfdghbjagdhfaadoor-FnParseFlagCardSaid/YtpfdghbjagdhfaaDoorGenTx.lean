import Derived.Test.YtpfdghbjagdhfaaDoorGenK
import Derived.Test.YtpfdghbjagdhfaaDoorBaseM
namespace Go.Proofs.YtpfdghbjagdhfaaDoor
open Go.RowKit
set_option linter.unusedVariables false
set_option linter.unusedSimpArgs false
set_option maxRecDepth 100000

/-- What valueIn makes, and the reader behind it. -/
def GenFR (R B : Nat) (A : Option Addr) (cb : Nat) (zs : List Int) (p : Nat) (w : World) (e : Ending) (w' : World) : Prop :=
  ∃ (A' : Option Addr) (c : Nat) (ds : List D) (b x : Int) (p' : Nat), e = .returned (.tuple #[.agg #[.slice A' ds.length c, .int .i64 b], .int .i64 x]) ∧ ds.length ≤ 13 ∧ (∀ d ∈ ds, d.small) ∧ (-1 ≤ b ∧ b ≤ 4) ∧ (-1 ≤ x ∧ x ≤ 4096) ∧
    w'.ownsRow w.heap.size 98 2 (.slice A' ds.length c) ds.length (flat ds) ∧ w.grownBy w' (some R) ∧ p' ≤ p + 200 ∧ Rdr w' R B A cb zs p'

/-- A drawn text, and the reader behind it. -/
def TxRP (M R B : Nat) (A : Option Addr) (cb : Nat) (zs : List Int) (p : Nat) (w : World) (e : Ending) (w' : World) : Prop :=
  ∃ (s : ByteArray) (p' : Nat), e = .returned (.string s) ∧ s.size ≤ M ∧ p' ≤ p + 40 ∧ w.grownBy w' (some R) ∧ Rdr w' R B A cb zs p'
set_option maxHeartbeats 8000000 in
theorem mutate_any (R B : Nat) (A : Option Addr) (cb : Nat) (zs : List Int) (p : Nat) (s : ByteArray) (w : World) (h : Rdr w R B A cb zs p) (hp : p + 10 ≤ 100000) (hs : s.size ≤ 4500) :
    Calls Tryd.prog 81 #[.pointer (some ⟨R, 0, none⟩), .string s] w (TxRP (s.size + 100) R B A cb zs p w) := by
  have hRw := h.lt
  have HR := Lib.hid h
  clear h
  go_enter Tryd.func81, Tryd.ntmps81
  go_wp2_with fail
  refine (pick_any ((s.size : Int) + 1) R B A cb zs p _ HR.out (by omega) (by omega) (by omega)).mono ?_
  rintro e w1 ⟨q, rfl, qa, qb, hg, hr⟩
  have qc := qb (by omega)
  obtain ⟨k, rfl⟩ := Int.eq_ofNat_of_zero_le qa
  have HG1 := Lib.hid hg
  have HR1 := Lib.hid hr
  clear hg hr qb qa HR
  go_wp2_with fail
  refine (pick_any 5 R B A cb zs _ _ HR1.out (by omega) (by omega) (by omega)).mono ?_
  rintro e w2 ⟨m, rfl, ma, mb, hg, hr⟩
  have mc := mb (by omega)
  have HG2 := Lib.hid (HG1.out.trans hg)
  have HR2 := Lib.hid hr
  have hz2 : w.heap.size ≤ w2.heap.size := HG2.out.size
  clear hg hr mb HG1 HR1
  have hm : m = 0 ∨ m = 1 ∨ m = 2 ∨ m = 3 ∨ m = 4 := by omega
  have hk0 : (0 : Int) ≤ (k : Int) := by omega
  have hk1 : (k : Int) ≤ (s.size : Int) := by omega
  have plain : ∀ W : World, Hid (w.grownBy W (some R)) → Hid (Rdr W R B A cb zs (p + 1 + 1)) → TxRP (s.size + 100) R B A cb zs p w (.returned (.string s)) W := fun W g r => ⟨s, _, rfl, by omega, by omega, g.out, r.out⟩
  rcases hm with rfl | rfl | rfl | rfl | rfl
  · by_cases hlt : (k : Int) < (s.size : Int)
    · have hw1 : IntKind.i64.wrap ((k : Int) + 1) = (k : Int) + 1 := by rw [IntKind.wrap_i64]; omega
      have hk2 : (k : Int) + 1 ≤ (s.size : Int) := by omega
      have hk3 : (0 : Int) ≤ (k : Int) + 1 := by omega
      go_wp2_with fail
      refine wp_region_held_drew (S := fun _ => True) (by kernel_rfl) trivial (fun hHeld => ?_)
      generalize hwd : w2.drew = w3 at hHeld ⊢
      have HG3 : Hid (w.grownBy w3 (some R)) := Lib.hid (by rw [← hwd]; exact grown_drew HG2.out)
      have HR3 : Hid (Rdr w3 R B A cb zs (p + 1 + 1)) := Lib.hid (by rw [← hwd]; exact HR2.out.drewN 1)
      clear hwd
      refine wpAnyH_take (i := 0) (v := ?_) rfl (by kernel_rfl) (by kernel_rfl) (by kernel_rfl) (fun _ _ _ h => h) (Or.inl ⟨by kernel_rfl, ?_⟩) hHeld ?_
      rotate_left
      · intro wz hSw
        first
        | (go_simp; done)
        | (go_simp; with_reducible rfl)
        | (go_simp; omega)
      try simp only [Act.put, List.setIfInBounds_toArray, List.set_cons_zero, List.set_cons_succ]
      refine wpAnyH_take (i := 1) (v := ?_) rfl (by kernel_rfl) (by kernel_rfl) (by kernel_rfl) (fun _ _ _ h => h) (Or.inl ⟨by kernel_rfl, ?_⟩) hHeld ?_
      rotate_left
      · intro wz hSw
        first
        | (go_simp; done)
        | (go_simp; with_reducible rfl)
        | (go_simp; omega)
      try simp only [Act.put, List.setIfInBounds_toArray, List.set_cons_zero, List.set_cons_succ]
      refine wpAnyH_take (i := 2) (v := ?_) rfl (by kernel_rfl) (by kernel_rfl) (by kernel_rfl) (fun _ _ _ h => h) (Or.inl ⟨by kernel_rfl, ?_⟩) hHeld ?_
      rotate_left
      · intro wz hSw
        first
        | (go_simp; done)
        | (go_simp; with_reducible rfl)
        | (go_simp; omega)
      try simp only [Act.put, List.setIfInBounds_toArray, List.set_cons_zero, List.set_cons_succ]
      refine wpAnyH_take (i := 3) (v := ?_) rfl (by kernel_rfl) (by kernel_rfl) (by kernel_rfl) (fun _ _ _ h => h) (Or.inl ⟨by kernel_rfl, ?_⟩) hHeld ?_
      rotate_left
      · intro wz hSw
        first
        | (go_simp; done)
        | (go_simp; with_reducible rfl)
        | (go_simp; omega)
      try simp only [Act.put, List.setIfInBounds_toArray, List.set_cons_zero, List.set_cons_succ]
      refine wpAnyH_take (i := 7) (v := ?_) rfl (by kernel_rfl) (by kernel_rfl) (by kernel_rfl) (fun _ _ _ h => h) (Or.inl ⟨by kernel_rfl, ?_⟩) hHeld ?_
      rotate_left
      · intro wz hSw
        first
        | (go_simp; done)
        | (go_simp; with_reducible rfl)
        | (go_simp; omega)
      try simp only [Act.put, List.setIfInBounds_toArray, List.set_cons_zero, List.set_cons_succ]
      refine wpAnyH_take (i := 8) (v := ?_) rfl (by kernel_rfl) (by kernel_rfl) (by kernel_rfl) (fun _ _ _ h => h) (Or.inl ⟨by kernel_rfl, ?_⟩) hHeld ?_
      rotate_left
      · intro wz hSw
        first
        | (go_simp; done)
        | (go_simp; with_reducible rfl)
        | (go_simp; omega)
      try simp only [Act.put, List.setIfInBounds_toArray, List.set_cons_zero, List.set_cons_succ]
      refine wpAnyH_take (i := 9) (v := ?_) rfl (by kernel_rfl) (by kernel_rfl) (by kernel_rfl) (fun _ _ _ h => h) (Or.inl ⟨by kernel_rfl, ?_⟩) hHeld ?_
      rotate_left
      · intro wz hSw
        first
        | (go_simp; done)
        | (go_simp; with_reducible rfl)
        | (go_simp; omega)
      try simp only [Act.put, List.setIfInBounds_toArray, List.set_cons_zero, List.set_cons_succ]
      refine wpAnyH_take (i := 10) (v := ?_) rfl (by kernel_rfl) (by kernel_rfl) (by kernel_rfl) (fun _ _ _ h => h) (Or.inl ⟨by kernel_rfl, ?_⟩) hHeld ?_
      rotate_left
      · intro wz hSw
        first
        | (go_simp; done)
        | (go_simp; with_reducible rfl)
        | (go_simp; omega)
      try simp only [Act.put, List.setIfInBounds_toArray, List.set_cons_zero, List.set_cons_succ]
      refine wpAnyH_ready (rs := [4]) (by kernel_rfl) (by simp) ?_
      refine AllReadyH.cons rfl (fun K hK => ?_) AllReadyH.nil
      go_simp
      refine hK.out _ _ trivial (fun hHeld => ?_)
      clear hK K
      try simp only [Act.put, List.setIfInBounds_toArray, List.set_cons_zero, List.set_cons_succ]
      refine wpAnyH_ready (rs := [5]) (by kernel_rfl) (by simp) ?_
      refine AllReadyH.cons rfl (fun K hK => ?_) AllReadyH.nil
      go_simp
      refine (of_any R B A cb zs (p + 1 + 1) w3.heap.size 9 9 _ (HR3.out.below ((Below.refl _ _).alloc (Nat.le_refl _) _)) (by omega) (by have := HR3.out.lt; omega) (by omega) (by omega) (by refine litS ?_ ?_ <;> first | rfl | decide)).mono ?_
      rintro e w4 ⟨t, rfl, ht, hg, hr⟩
      have HG4 : Hid (w.grownBy w4 (some R)) := Lib.hid (HG3.out.trans ((World.grownBy_alloc _ _ _).trans hg))
      have HR4 := Lib.hid hr
      clear hg hr
      go_simp
      refine hK.out _ _ trivial (fun hHeld => ?_)
      clear hK K
      try simp only [Act.put, List.setIfInBounds_toArray, List.set_cons_zero, List.set_cons_succ]
      refine wpAnyH_take (i := 6) (v := .string (s.extract 0 k ++ t)) rfl (by kernel_rfl) (by kernel_rfl) (by kernel_rfl) (fun _ _ _ h => h) (Or.inl ⟨by kernel_rfl, ?_⟩) hHeld ?_
      · intro wz hSw
        first
        | (go_simp; done)
        | (go_simp; with_reducible rfl)
        | (go_simp; omega)
      try simp only [Act.put, List.setIfInBounds_toArray, List.set_cons_zero, List.set_cons_succ]
      refine wpAnyH_take (i := 11) (v := .string ((s.extract 0 k ++ t) ++ s.extract (k + 1) s.size)) rfl (by kernel_rfl) (by kernel_rfl) (by kernel_rfl) (fun _ _ _ h => h) (Or.inl ⟨by kernel_rfl, ?_⟩) hHeld ?_
      · intro wz hSw
        first
        | (go_simp; done)
        | (go_simp; with_reducible rfl)
        | (go_simp; omega)
      try simp only [Act.put, List.setIfInBounds_toArray, List.set_cons_zero, List.set_cons_succ]
      refine wpAnyH_take (i := 12) (v := ?_) rfl (by kernel_rfl) (by kernel_rfl) (by kernel_rfl) (fun _ _ _ h => h) (Or.inl ⟨by kernel_rfl, ?_⟩) hHeld ?_
      rotate_left
      · intro wz hSw
        first
        | (go_simp; done)
        | (go_simp; with_reducible rfl)
        | (go_simp; omega)
      try simp only [Act.put, List.setIfInBounds_toArray, List.set_cons_zero, List.set_cons_succ]
      refine wpAnyH_done (by kernel_rfl) ?_ _
      try go_simp
      go_wp2
      go_ret
      exact ⟨_, p + 1 + 1 + 1, rfl, by rw [ByteArray.size_append, ByteArray.size_append, ByteArray.size_extract, ByteArray.size_extract]; omega, by omega, HG4.out, HR4.out⟩
    · go_wp2
      go_ret
      exact plain _ HG2 HR2
  · by_cases hlt : (k : Int) < (s.size : Int)
    · have hw1 : IntKind.i64.wrap ((k : Int) + 1) = (k : Int) + 1 := by rw [IntKind.wrap_i64]; omega
      have hk2 : (k : Int) + 1 ≤ (s.size : Int) := by omega
      have hk3 : (0 : Int) ≤ (k : Int) + 1 := by omega
      go_wp2_with fail
      refine wp_region_held_drew (S := fun _ => True) (by kernel_rfl) trivial (fun hHeld => ?_)
      generalize hwd : w2.drew = w3 at hHeld ⊢
      have HG3 : Hid (w.grownBy w3 (some R)) := Lib.hid (by rw [← hwd]; exact grown_drew HG2.out)
      have HR3 : Hid (Rdr w3 R B A cb zs (p + 1 + 1)) := Lib.hid (by rw [← hwd]; exact HR2.out.drewN 1)
      clear hwd
      refine wpAnyH_take (i := 0) (v := ?_) rfl (by kernel_rfl) (by kernel_rfl) (by kernel_rfl) (fun _ _ _ h => h) (Or.inl ⟨by kernel_rfl, ?_⟩) hHeld ?_
      rotate_left
      · intro wz hSw
        first
        | (go_simp; done)
        | (go_simp; with_reducible rfl)
        | (go_simp; omega)
      try simp only [Act.put, List.setIfInBounds_toArray, List.set_cons_zero, List.set_cons_succ]
      refine wpAnyH_take (i := 1) (v := ?_) rfl (by kernel_rfl) (by kernel_rfl) (by kernel_rfl) (fun _ _ _ h => h) (Or.inl ⟨by kernel_rfl, ?_⟩) hHeld ?_
      rotate_left
      · intro wz hSw
        first
        | (go_simp; done)
        | (go_simp; with_reducible rfl)
        | (go_simp; omega)
      try simp only [Act.put, List.setIfInBounds_toArray, List.set_cons_zero, List.set_cons_succ]
      refine wpAnyH_take (i := 2) (v := ?_) rfl (by kernel_rfl) (by kernel_rfl) (by kernel_rfl) (fun _ _ _ h => h) (Or.inl ⟨by kernel_rfl, ?_⟩) hHeld ?_
      rotate_left
      · intro wz hSw
        first
        | (go_simp; done)
        | (go_simp; with_reducible rfl)
        | (go_simp; omega)
      try simp only [Act.put, List.setIfInBounds_toArray, List.set_cons_zero, List.set_cons_succ]
      refine wpAnyH_take (i := 3) (v := ?_) rfl (by kernel_rfl) (by kernel_rfl) (by kernel_rfl) (fun _ _ _ h => h) (Or.inl ⟨by kernel_rfl, ?_⟩) hHeld ?_
      rotate_left
      · intro wz hSw
        first
        | (go_simp; done)
        | (go_simp; with_reducible rfl)
        | (go_simp; omega)
      try simp only [Act.put, List.setIfInBounds_toArray, List.set_cons_zero, List.set_cons_succ]
      refine wpAnyH_take (i := 7) (v := ?_) rfl (by kernel_rfl) (by kernel_rfl) (by kernel_rfl) (fun _ _ _ h => h) (Or.inl ⟨by kernel_rfl, ?_⟩) hHeld ?_
      rotate_left
      · intro wz hSw
        first
        | (go_simp; done)
        | (go_simp; with_reducible rfl)
        | (go_simp; omega)
      try simp only [Act.put, List.setIfInBounds_toArray, List.set_cons_zero, List.set_cons_succ]
      refine wpAnyH_take (i := 8) (v := ?_) rfl (by kernel_rfl) (by kernel_rfl) (by kernel_rfl) (fun _ _ _ h => h) (Or.inl ⟨by kernel_rfl, ?_⟩) hHeld ?_
      rotate_left
      · intro wz hSw
        first
        | (go_simp; done)
        | (go_simp; with_reducible rfl)
        | (go_simp; omega)
      try simp only [Act.put, List.setIfInBounds_toArray, List.set_cons_zero, List.set_cons_succ]
      refine wpAnyH_take (i := 9) (v := ?_) rfl (by kernel_rfl) (by kernel_rfl) (by kernel_rfl) (fun _ _ _ h => h) (Or.inl ⟨by kernel_rfl, ?_⟩) hHeld ?_
      rotate_left
      · intro wz hSw
        first
        | (go_simp; done)
        | (go_simp; with_reducible rfl)
        | (go_simp; omega)
      try simp only [Act.put, List.setIfInBounds_toArray, List.set_cons_zero, List.set_cons_succ]
      refine wpAnyH_take (i := 10) (v := ?_) rfl (by kernel_rfl) (by kernel_rfl) (by kernel_rfl) (fun _ _ _ h => h) (Or.inl ⟨by kernel_rfl, ?_⟩) hHeld ?_
      rotate_left
      · intro wz hSw
        first
        | (go_simp; done)
        | (go_simp; with_reducible rfl)
        | (go_simp; omega)
      try simp only [Act.put, List.setIfInBounds_toArray, List.set_cons_zero, List.set_cons_succ]
      refine wpAnyH_ready (rs := [4]) (by kernel_rfl) (by simp) ?_
      refine AllReadyH.cons rfl (fun K hK => ?_) AllReadyH.nil
      go_simp
      refine hK.out _ _ trivial (fun hHeld => ?_)
      clear hK K
      try simp only [Act.put, List.setIfInBounds_toArray, List.set_cons_zero, List.set_cons_succ]
      refine wpAnyH_ready (rs := [5]) (by kernel_rfl) (by simp) ?_
      refine AllReadyH.cons rfl (fun K hK => ?_) AllReadyH.nil
      go_simp
      refine (of_any R B A cb zs (p + 1 + 1) w3.heap.size 9 9 _ (HR3.out.below ((Below.refl _ _).alloc (Nat.le_refl _) _)) (by omega) (by have := HR3.out.lt; omega) (by omega) (by omega) (by refine litS ?_ ?_ <;> first | rfl | decide)).mono ?_
      rintro e w4 ⟨t, rfl, ht, hg, hr⟩
      have HG4 : Hid (w.grownBy w4 (some R)) := Lib.hid (HG3.out.trans ((World.grownBy_alloc _ _ _).trans hg))
      have HR4 := Lib.hid hr
      clear hg hr
      go_simp
      refine hK.out _ _ trivial (fun hHeld => ?_)
      clear hK K
      try simp only [Act.put, List.setIfInBounds_toArray, List.set_cons_zero, List.set_cons_succ]
      refine wpAnyH_take (i := 6) (v := .string (s.extract 0 k ++ t)) rfl (by kernel_rfl) (by kernel_rfl) (by kernel_rfl) (fun _ _ _ h => h) (Or.inl ⟨by kernel_rfl, ?_⟩) hHeld ?_
      · intro wz hSw
        first
        | (go_simp; done)
        | (go_simp; with_reducible rfl)
        | (go_simp; omega)
      try simp only [Act.put, List.setIfInBounds_toArray, List.set_cons_zero, List.set_cons_succ]
      refine wpAnyH_take (i := 11) (v := .string ((s.extract 0 k ++ t) ++ s.extract (k + 1) s.size)) rfl (by kernel_rfl) (by kernel_rfl) (by kernel_rfl) (fun _ _ _ h => h) (Or.inl ⟨by kernel_rfl, ?_⟩) hHeld ?_
      · intro wz hSw
        first
        | (go_simp; done)
        | (go_simp; with_reducible rfl)
        | (go_simp; omega)
      try simp only [Act.put, List.setIfInBounds_toArray, List.set_cons_zero, List.set_cons_succ]
      refine wpAnyH_take (i := 12) (v := ?_) rfl (by kernel_rfl) (by kernel_rfl) (by kernel_rfl) (fun _ _ _ h => h) (Or.inl ⟨by kernel_rfl, ?_⟩) hHeld ?_
      rotate_left
      · intro wz hSw
        first
        | (go_simp; done)
        | (go_simp; with_reducible rfl)
        | (go_simp; omega)
      try simp only [Act.put, List.setIfInBounds_toArray, List.set_cons_zero, List.set_cons_succ]
      refine wpAnyH_done (by kernel_rfl) ?_ _
      try go_simp
      go_wp2
      go_ret
      exact ⟨_, p + 1 + 1 + 1, rfl, by rw [ByteArray.size_append, ByteArray.size_append, ByteArray.size_extract, ByteArray.size_extract]; omega, by omega, HG4.out, HR4.out⟩
    · go_wp2
      go_ret
      exact plain _ HG2 HR2
  · go_wp2
    go_ret
    exact ⟨_, _, rfl, by simp only [ByteArray.size_extract]; omega, by omega, HG2.out, HR2.out⟩
  · go_wp2_with fail
    refine (of_any R B A cb zs (p + 1 + 1) w2.heap.size 5 5 _ (HR2.out.below ((Below.refl _ _).alloc (Nat.le_refl _) _)) (by omega) (by have := HR2.out.lt; omega) (by omega) (by omega) (by refine litS ?_ ?_ <;> first | rfl | decide)).mono ?_
    rintro e w4 ⟨t, rfl, ht, hg, hr⟩
    have HG4 : Hid (w.grownBy w4 (some R)) := Lib.hid (HG2.out.trans ((World.grownBy_alloc _ _ _).trans hg))
    have HR4 := Lib.hid hr
    clear hg hr
    go_wp2
    go_ret
    exact ⟨_, _, rfl, by simp only [ByteArray.size_append]; omega, by omega, HG4.out, HR4.out⟩
  · go_wp2
    go_ret
    exact plain _ HG2 HR2

def DrawFT (w : World) (e : Ending) (w' : World) : Prop :=
  ∃ (A : Option Addr) (c : Nat) (ds : List D) (b : Int) (s : ByteArray), e = .returned (.tuple #[.agg #[.slice A ds.length c, .int .i64 b], .string s]) ∧ ds.length ≤ 13 ∧ (∀ d ∈ ds, d.small) ∧ (-1 ≤ b ∧ b ≤ 4) ∧ s.size ≤ 4000 ∧ SD w' w'.heap.size A ds.length c ds ∧ Below w.heap.size w w'
end Go.Proofs.YtpfdghbjagdhfaaDoor
