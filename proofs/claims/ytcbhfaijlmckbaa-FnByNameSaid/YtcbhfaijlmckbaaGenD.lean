import Derived.Test.YtcbhfaijlmckbaaGenN
namespace Go.Proofs.Ytcbhfaijlmckbaa
open Go.RowKit
set_option linter.unusedVariables false

theorem SB.alloc0 {w : World} {A : Option Addr} {n c : Nat} {zs : List Int} (h : SB w w.heap.size A n c zs) (o : Obj) : SB (w.alloc o) (w.alloc o).heap.size A n c zs :=
  ⟨Rd.more (Rd.alloc h.rd (Nat.le_refl _) _) (by simp), h.len, h.cap, h.max, h.byt⟩
/-- A drawn enumeration. -/
def DrawE (w : World) (e : Ending) (w' : World) : Prop :=
  ∃ (A : Option Addr) (c : Nat) (ds : List D), e = .returned (.agg #[.slice A ds.length c]) ∧ ds.length ≤ 25 ∧ (∀ d ∈ ds, d.small) ∧ SD w' w'.heap.size A ds.length c ds ∧ Below w.heap.size w w'
/-- A drawn enumeration and a name. -/
def DrawN (w : World) (e : Ending) (w' : World) : Prop :=
  ∃ (A : Option Addr) (c : Nat) (ds : List D) (s : ByteArray), e = .returned (.tuple #[.agg #[.slice A ds.length c], .string s]) ∧ s.size ≤ 100 ∧ ds.length ≤ 25 ∧ (∀ d ∈ ds, d.small) ∧ SD w' w'.heap.size A ds.length c ds ∧ Below w.heap.size w w'






set_option maxHeartbeats 1000000 in
theorem drawRenumber_any (A : Option Addr) (n c : Nat) (zs : List Int) (w : World) (h : SB w w.heap.size A n c zs) :
    Calls Try.prog 14 #[.slice A n c] w (DrawE w) := by
  have HS := Lib.hid h
  clear h
  go_enter Try.func14, Try.ntmps14
  go_wp2_with fail
  refine (newReader_any A n c zs _ (HS.out.alloc0 _)).mono ?_
  rintro e w1 ⟨R, A1, cb, z1, rfl, hR, hr, hb⟩
  have hwR : w.heap.size ≠ R := by simp at hR; omega
  have x0 : w1.cell? ⟨w.heap.size, 0, none⟩ = some (.slice none 0 0) := keep1 hb (by simp [go_sem])
  have y0 : w1.frozen? ⟨w.heap.size, 0, none⟩ = false := (hb.frozen (p := ⟨w.heap.size, 0, none⟩) (by simp)).trans (by simp [go_sem])
  have hz : w.heap.size < w1.heap.size := by have := hb.size; simp at this; omega
  have HB : Hid (Below w.heap.size w w1) := Lib.hid (((Below.refl _ _).alloc (Nat.le_refl _) _).trans (hb.mono (by simp)))
  have HR := Lib.hid hr
  have HRl : Hid (w.heap.size + 1 ≤ R) := Lib.hid (by simpa using hR)
  clear hr hb hR
  go_wp2_with fail
  refine (someEnum_any R _ A1 cb z1 0 _ HR.out (by omega)).mono ?_
  rintro e w2 ⟨A', c', ds, p', rfl, hn, hsm, hown, hp', hg, hr⟩
  have z0 := hg.cell x0 (by simpa using hwR)
  have g0 : w2.frozen? ⟨w.heap.size, 0, none⟩ = false := grown_frozen hg (by show w.heap.size < _; omega) y0 (by simpa using hwR)
  have HG := Lib.hid hg
  have HO := Lib.hid hown
  have HSM := Lib.hid hsm
  clear hg hr hown hsm x0 y0
  go_wp2
  refine bodyPost_ret (v := .agg #[.slice A' ds.length c']) (by simp [results, Try.results14, go_sem, z0]) rfl ⟨A', c', ds, rfl, hn, HSM.out, ?_, ?_⟩
  · exact (sd_of_own (own_setCell HO.out (fun e => by have := (HO.out.lt _ e).1; simp at this; omega) _) (fun d hd => small_ok (HSM.out d hd)))
  · exact (HB.out.grown HG.out HB.out.size (fun k hk => by cases hk; have := HRl.out; omega)).setCell (Nat.le_refl _) _






end Go.Proofs.Ytcbhfaijlmckbaa
