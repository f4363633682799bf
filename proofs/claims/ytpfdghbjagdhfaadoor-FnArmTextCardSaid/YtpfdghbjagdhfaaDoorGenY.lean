import Derived.Test.YtpfdghbjagdhfaaDoorGenX
namespace Go.Proofs.YtpfdghbjagdhfaaDoor
open Go.RowKit
set_option linter.unusedVariables false
set_option linter.unusedSimpArgs false
set_option maxRecDepth 100000

/-- A drawn class and an arm. -/
def DrawFA (w : World) (e : Ending) (w' : World) : Prop :=
  ∃ (A : Option Addr) (c : Nat) (ds : List D) (b x y : Int), e = .returned (.tuple #[.agg #[.slice A ds.length c, .int .i64 b], .agg #[.int .i64 x, .int .i64 y]]) ∧ ds.length ≤ 13 ∧ (∀ d ∈ ds, d.small) ∧ (-1 ≤ b ∧ b ≤ 4) ∧ (-60000 ≤ x ∧ x ≤ 60000) ∧ (-60000 ≤ y ∧ y ≤ 60000) ∧ SD w' w'.heap.size A ds.length c ds ∧ Below w.heap.size w w'
/-- .. and a number. -/
def DrawFAN (w : World) (e : Ending) (w' : World) : Prop :=
  ∃ (A : Option Addr) (c : Nat) (ds : List D) (b x y z : Int), e = .returned (.tuple #[.agg #[.slice A ds.length c, .int .i64 b], .agg #[.int .i64 x, .int .i64 y], .int .i64 z]) ∧ ds.length ≤ 13 ∧ (∀ d ∈ ds, d.small) ∧ (-1 ≤ b ∧ b ≤ 4) ∧ (-60000 ≤ x ∧ x ≤ 60000) ∧ (-60000 ≤ y ∧ y ≤ 60000) ∧ (-1 ≤ z ∧ z ≤ 4096) ∧ SD w' w'.heap.size A ds.length c ds ∧ Below w.heap.size w w'
theorem SB.allocA {w : World} {A : Option Addr} {n c : Nat} {zs : List Int} (h : SB w w.heap.size A n c zs) (o o' : Obj) : SB ((w.alloc o).alloc o') ((w.alloc o).alloc o').heap.size A n c zs := (h.allocF o).allocF o'
set_option maxHeartbeats 4000000 in
theorem drawArmText_any (A : Option Addr) (n c : Nat) (zs : List Int) (w : World) (h : SB w w.heap.size A n c zs) :
    Calls Tryd.prog 36 #[.slice A n c] w (DrawFA w) := by
  have HS := Lib.hid h
  clear h
  go_enter Tryd.func36, Tryd.ntmps36
  go_wp2_with fail
  refine (newReader_any A n c zs _ (HS.out.allocA _ _)).mono ?_
  rintro e w1 ⟨R, A1, cb, z1, rfl, hR, hr, hb⟩
  have hwR : w.heap.size ≠ R := by simp at hR; omega
  have hwR1 : w.heap.size + 1 ≠ R := by simp at hR; omega
  have HC1 : Hid (C2 w1 w.heap.size (.slice none 0 0) (.int .i64 0)) := Lib.hid (((c2New _ _ _ _).below ((Below.refl _ _).alloc (Nat.le_refl _) _)).below hb)
  have HE1 : Hid (C2 w1 (w.heap.size + 1) (.int .i64 0) (.int .i64 0)) := Lib.hid ((c2New' _ _ _ _ _).below hb)
  have HB : Hid (Below w.heap.size w w1) := Lib.hid ((((Below.refl _ _).alloc (Nat.le_refl _) _).alloc (by simp) _).trans (hb.mono (by simp; omega)))
  have HR1 := Lib.hid hr
  have hRl : w.heap.size + 2 ≤ R := by simpa using hR
  clear hr hb hR
  go_wp2_with fail
  refine (armIn_any R _ A1 cb z1 0 _ HR1.out (by omega)).mono ?_
  rintro e w2 ⟨A', c', ds, b, x, y, p2, rfl, hn, hsm, hbd, hx, hy, hown, hp2, hg, hr2⟩
  have HC2 := Lib.hid (HC1.out.grown hg (by simpa using hwR))
  have HE2 := Lib.hid (HE1.out.grown hg (by simpa using hwR1))
  have HG2 : Hid (w1.grownBy w2 (some R)) := Lib.hid hg
  have HO2 := Lib.hid hown
  have HSM := Lib.hid hsm
  have HBD := Lib.hid hbd
  have HR2l : Hid (R < w1.heap.size) := Lib.hid HR1.out.lt
  have HR2 := Lib.hid hr2
  clear hg hown hsm hbd HC1 HE1 HR1 hr2
  obtain ⟨c0, c1, f0, f1⟩ := HC2.out
  obtain ⟨e0, e1, g0, g1⟩ := HE2.out
  go_wp2
  refine bodyPost_ret (v := .tuple #[.agg #[.slice A' ds.length c', .int .i64 b], .agg #[.int .i64 x, .int .i64 y]]) (by simp [results, Tryd.results36, go_sem, c0, c1, e0, e1]) rfl ⟨A', c', ds, b, x, y, rfl, hn, HSM.out, HBD.out, hx, hy, ?_, ?_⟩
  · exact sd_of_own (own_setCell (own_setCell (own_setCell (own_setCell HO2.out (fun e => by have := (HO2.out.lt _ e).1; have := HR2l.out; simp only at *; omega) _) (fun e => by have := (HO2.out.lt _ e).1; have := HR2l.out; simp only at *; omega) _) (fun e => by have := (HO2.out.lt _ e).1; have := HR2l.out; simp only at *; omega) _) (fun e => by have := (HO2.out.lt _ e).1; have := HR2l.out; simp only at *; omega) _) (fun d hd => small_ok (HSM.out d hd))
  · exact ((((HB.out.grown HG2.out HB.out.size (fun k hk => by cases hk; omega)).setCell (by simp) _).setCell (by simp) _).setCell (by simp) _).setCell (by simp) _
end Go.Proofs.YtpfdghbjagdhfaaDoor
